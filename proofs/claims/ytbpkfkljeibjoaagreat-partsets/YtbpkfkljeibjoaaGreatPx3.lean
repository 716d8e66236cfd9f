/- Joined: FmA, KmA, PtB, KmB, KmC, KmD, KmE, OpenA, OpenK, KmF, KmG, KmI. -/
import Derived.Test.YtbpkfkljeibjoaaGreatPx2
import Derived.Test.YtbpkfkljeibjoaaGreatProg
import Derived.Deep.SlicePairs
import Derived.ProofKit
import Derived.KernelRfl
set_option linter.unusedVariables false
set_option linter.unusedSimpArgs false
/- The document's Form: a set of dots in its form. -/
namespace Rm
open Go Go.RowKit
theorem run_is {D : DS} {s n : Nat} (h1 : ∀ c, 1 ≤ c → c ≤ n → D s c = true) (h2 : n = 1000 ∨ D s (n + 1) = false) (hn : n ≤ 1000) : run D s = n := by
  have hle := run_le D s
  rcases Nat.lt_trichotomy (run D s) n with q | q | q
  · have := runTo_gap D s 1000 (show run D s < 1000 by omega)
    rw [show runTo D s 1000 = run D s from rfl, h1 (run D s + 1) (by omega) (by omega)] at this
    cases this
  · exact q
  · rcases h2 with e | e
    · omega
    · have := runTo_all D s 1000 (n + 1) (by omega) (show n + 1 ≤ run D s by omega)
      rw [this] at e; cases e
def runsTo (D : DS) (i : Nat) : List Nat := (List.range i).map (run D)
theorem runsTo_succ (D : DS) (i : Nat) : runsTo D (i + 1) = runsTo D i ++ [run D i] := by simp [runsTo, List.range_succ]
theorem runsTo_len (D : DS) (i : Nat) : (runsTo D i).length = i := by simp [runsTo]
def restTo (D : DS) (i : Nat) : List (Nat × Nat) := (List.range i).flatMap (restD D)
theorem restTo_succ (D : DS) (i : Nat) : restTo D (i + 1) = restTo D i ++ restD D i := by simp [restTo, List.range_succ]
def restB (D : DS) (s c : Nat) : List (Nat × Nat) := ((List.range c).filter fun x => decide (run D s + 2 ≤ x) && D s x).map fun x => (s, x)
theorem restB_all (D : DS) (s : Nat) : restB D s 1001 = restD D s := rfl
theorem restB_start (D : DS) (s c : Nat) (h : c ≤ run D s + 2) : restB D s c = [] := by
  unfold restB
  rw [List.filter_eq_nil_iff.2]
  · rfl
  · intro x hx
    have := List.mem_range.1 hx
    simp; omega
theorem restB_yes {D : DS} {s c : Nat} (h : run D s + 2 ≤ c) (hd : D s c = true) : restB D s (c + 1) = restB D s c ++ [(s, c)] := by
  unfold restB
  rw [List.range_succ, List.filter_append]
  simp [h, hd]
theorem restB_no {D : DS} {s c : Nat} (hd : D s c = false) : restB D s (c + 1) = restB D s c := by
  unfold restB
  rw [List.range_succ, List.filter_append]
  simp [hd]
theorem restB_len (D : DS) (s c : Nat) : (restB D s c).length ≤ c := by
  unfold restB
  rw [List.length_map]
  exact Nat.le_trans (List.length_filter_le _ _) (by simp)
theorem restTo_len (D : DS) (i : Nat) : (restTo D i).length ≤ i * 1001 := by
  induction i with
  | zero => simp [restTo]
  | succ i ih =>
    rw [restTo_succ, List.length_append]
    have := restB_len D i 1001
    rw [restB_all] at this
    omega
set_option maxRecDepth 20000 in
theorem five_runs (D : DS) : five (runsTo D 5) = runsTo D 5 := by
  simp [five, runsTo, cv, List.range_succ]
theorem all_snoc {D : DS} {i n : Nat} (h : ∀ c, 1 ≤ c → c ≤ n → D i c = true) (k : D i (n + 1) = true) : ∀ c, 1 ≤ c → c ≤ n + 1 → D i c = true := by
  intro c h1 h2
  by_cases e : c = n + 1
  · subst e; exact k
  · exact h c h1 (by omega)
theorem rest_end (D : DS) (i c : Nat) {n : Nat} (h1 : n + 2 ≤ c) (h2 : c = 1001 ∨ 1001 < c ∧ c = n + 2) (hR : run D i = n) : restTo D i ++ restB D i c = restTo D (i + 1) := by
  have key : restB D i c = restD D i := by
    rcases h2 with e | ⟨e, e'⟩
    · rw [e, restB_all]
    · rw [← restB_all, restB_start D i c (by omega), restB_start D i 1001 (by omega)]
  rw [restTo_succ, key]
theorem rest_len (D : DS) (i c : Nat) (hi : i < 5) (hc : c ≤ 1001) : (restTo D i ++ restB D i c).length ≤ 6100 := by
  have := restTo_len D i
  have := restB_len D i c
  rw [List.length_append]; omega
theorem restB_app (D : DS) (i c : Nat) (h : run D i + 2 ≤ c) (hd : D i c = true) : (restTo D i ++ restB D i (c + 1)).length = (restTo D i ++ restB D i c).length + 1 ∧ restTo D i ++ restB D i (c + 1) = (restTo D i ++ restB D i c) ++ [(i, c)] := by
  rw [restB_yes h hd, ← List.append_assoc]
  exact ⟨by rw [List.length_append]; rfl, rfl⟩
theorem zero_back {D : DS} {q : Nat} (h : ∀ s, q ≤ s → s < 5 → cv (runsTo D 5) s = 0) (h0 : run D (q - 1) = 0) (hq : 0 < q) (hq5 : q ≤ 5) : ∀ s, q - 1 ≤ s → s < 5 → cv (runsTo D 5) s = 0 := by
  intro s h1 h2
  by_cases e : s = q - 1
  · subst e
    simp [cv, runsTo, List.getD, h2, h0]
  · exact h s (by omega) h2
theorem form_vec (D : DS) (q : Nat) (hq : q ≤ 5) (hz : ∀ s, q ≤ s → s < 5 → cv (runsTo D 5) s = 0) (h : q = 0 ∨ (0 < q ∧ run D (q - 1) ≠ 0)) : formV D = (runsTo D 5).take q := by
  show trimL (runsTo D 5) = _
  have h5 : five (runsTo D 5) = runsTo D 5 := five_runs D
  rw [← h5, trim_take (runsTo D 5) q hq hz ?_]
  rcases h with e | ⟨e, e'⟩
  · exact .inl e
  · refine .inr ?_
    have : cv (runsTo D 5) (q - 1) = run D (q - 1) := by
      have : q - 1 < 5 := by omega
      simp [cv, runsTo, List.getD, this]
    rw [this]; exact e'
end Rm
namespace Go.Proofs.YtbpkfkljeibjoaaGreat
open Go.RowKit Rm Gx
theorem flatI_snoc (V : List Nat) (n : Nat) : flatI V ++ [.int .i64 (n : Int)] = flatI (V ++ [n]) := by simp [flatI]
theorem flatD_snoc (M : List (Nat × Nat)) (s c : Nat) : flat (pairs M) ++ [.int .i64 (s : Int), .int .i64 (c : Int)] = flat (pairs (M ++ [(s, c)])) := by simp [pairs, flat]
theorem bk_cells {w : World} {b : Nat} {cs : List Value} {t : TypeId} (h : Bk w b cs.toArray t) : ∀ j u, cs[j]? = some u → w.cell? ((⟨b, 0, none⟩ : Addr).add j) = some u := by
  intro j u hj
  rw [Gx.add_n, Nat.zero_add]
  exact h.cell j (by simpa using hj)
theorem runs_take_at (D : DS) {q j : Nat} (h : j < q) (hq : q ≤ 5) : (flatI ((runsTo D 5).take q))[0 + j * 1]? = some (.int .i64 ((run D j : Nat) : Int)) := by
  rw [Nat.zero_add, Nat.mul_one]
  unfold flatI
  rw [List.getElem?_map, List.getElem?_take_of_lt h]
  have : j < 5 := by omega
  simp [runsTo, this]
theorem own_cut_runs (D : DS) {w : World} {base : Nat} {e : TypeId} {q k c : Nat} {a : Option Addr} (hk : k ≤ q) (h : w.ownsRow base e 1 (.slice a q c) q (flatI ((runsTo D 5).take q))) : w.ownsRow base e 1 (.slice a k c) k (flatI ((runsTo D 5).take k)) := by
  have := ow_cut h hk
  rw [Nat.mul_one] at this
  have e2 : (flatI ((runsTo D 5).take q)).take k = flatI ((runsTo D 5).take k) := by
    unfold flatI
    rw [← List.map_take, List.take_take, Nat.min_eq_left hk]
  rwa [e2] at this
theorem own_take_len (D : DS) {w : World} {base : Nat} {e : TypeId} {q c : Nat} {a : Option Addr} (h : w.ownsRow base e 1 (.slice a q c) q (flatI ((runsTo D 5).take q))) : w.ownsRow base e 1 (.slice a q c) ((runsTo D 5).take q).length (flatI ((runsTo D 5).take q)) := by
  have h1 := h.1
  have : ((runsTo D 5).take q).length = q := by rw [flatI_len, Nat.mul_one] at h1; exact h1
  rw [this]; exact h
theorem leI_dec (n : Nat) : decide ((n : Int) ≤ 60) = decide (n ≤ 60) := by rw [Bool.eq_iff_iff]; simp only [decide_eq_true_eq]; omega
theorem own_cap {w : World} {base : Nat} {e : TypeId} {s n c : Nat} {a : Option Addr} {xs : List Value} (h : w.ownsRow base e s (.slice a n c) n xs) : n ≤ c := by
  obtain ⟨a', c', e, h⟩ := ow_form h
  injection e with _ _ e3
  omega
set_option maxHeartbeats 8000000 in
set_option maxRecDepth 100000 in
theorem rform_any (X : Nat → Nat) (hX : OkX X) (w : World) :
  Calls Tryz.prog 45 #[.agg (wArr X)] w fun e w' => ∃ k, e = .returned (.tuple #[k, .bool (decide ((formM (dsX X)).length ≤ 60))]) ∧ KnO w.heap.size w' k (formV (dsX X)) (formM (dsX X)) ∧ Gr w w' := by
 refine enter (N := 77) Tryz.func45 rfl rfl rfl (fun a0 ok0 h0 => ?_)
 have e0_0 : a0.eval (.tmp 0) = .agg (wArr X) := h0 0 _ rfl
 clear h0
 have G0 := Gr.refl w
 refine wp_seq_k (fun K1 hK1 => ?_)
 refine wp_region_lit ?_
 refine sal (cs := wArr X) ok0 rfl (wn _ rfl) rfl (o_box e0_0) (fun an2 w4 b3 W5 n2 => ?_)
 have G7 := G0.trans W5.gr
 refine sal (cs := #[.slice none 0 0, .slice none 0 0]) n2.ok rfl (wn _ rfl) rfl (o_al (z := .agg #[.slice none 0 0, .slice none 0 0]) (by kernel_rfl)) (fun an8 w10 b9 W11 n8 => ?_)
 have l13 : w.heap.size ≤ b9 := by rw [W11.eq]; exact G7.size
 have G14 := G7.trans W11.gr
 have B15 := W5.bk.gr W11.gr
 refine sv n8.ok rfl (wn _ rfl) rfl (o_as ev_const) (fun an16 n16 => ?_)
 refine wpList_nil ?_
 refine th_n (hK1 _ _ ?_)
 refine wp_seq_k (fun K17 hK17 => ?_)
 refine wp_region_lit ?_
 refine sal (cs := #[.slice none 0 0, .slice none 0 0]) n16.ok rfl (wn _ rfl) rfl (o_al (z := .agg #[.slice none 0 0, .slice none 0 0]) (by kernel_rfl)) (fun an18 w20 b19 W21 n18 => ?_)
 have l22 : b3 < b19 := by rw [W21.eq]; exact B15.lt
 have l23 : b9 < b19 := by rw [W21.eq]; exact W11.bk.lt
 have l24 : w.heap.size ≤ b19 := by rw [W21.eq]; exact G14.size
 have G25 := G14.trans W21.gr
 have B26 := B15.gr W21.gr
 have B27 := W11.bk.gr W21.gr
 refine wpList_nil ?_
 refine th_n (hK17 _ _ ?_)
 refine wp_seq_k (fun K28 hK28 => ?_)
 refine wp_seq_k (fun K29 hK29 => ?_)
 refine wp_region_lit ?_
 refine sv n18.ok rfl (wn _ rfl) rfl (o_mv ev_const) (fun an30 n30 => ?_)
 refine wpList_nil ?_
 refine th_n (hK29 _ _ ?_)
 refine wp_block ?_
 obtain ⟨h1, z31⟩ : ∃ n, n = w20.heap.size := ⟨_, rfl⟩
 have l32 : b3 < h1 := by rw [z31]; exact B26.lt
 have l33 : b9 < h1 := by rw [z31]; exact B27.lt
 have l34 : b19 < h1 := by rw [z31]; exact W21.bk.lt
 have l35 : w.heap.size ≤ h1 := by rw [z31]; exact G25.size
 have z36 : h1 ≤ w20.heap.size := Nat.le_of_eq z31
 have O37 := World.ownsRow_nil w20 h1 3 1
 have O38 := World.ownsRow_nil w20 h1 55 2
 have e40 := n30.ne rfl (n18.ne rfl (n16.ne rfl (n8.ne rfl n2.at_)))
 have e41 := n30.ne rfl (n18.ne rfl (n16.ne rfl n8.at_))
 refine lp (fun (nL : Nat) (aL : Act) (wL : World) => ∃ i : Nat, ∃ va : Option Addr, ∃ vc : Nat, ∃ ma : Option Addr, ∃ mc : Nat, nL = 5 - i ∧ Ok 77 aL ∧ Gr w wL ∧ (aL.eval (.tmp 1) = .pointer (some ⟨b3, 0, none⟩)) ∧ (aL.eval (.tmp 2) = .pointer (some ⟨b9, 0, none⟩)) ∧ (aL.eval (.tmp 3) = .bool false) ∧ (aL.eval (.tmp 4) = .pointer (some ⟨b19, 0, none⟩)) ∧ (aL.eval (.tmp 9) = .int .i64 (i : Int)) ∧ (Bk wL b3 (wArr X) 49) ∧ (Bk wL b9 #[.slice none 0 0, .slice none 0 0] 33) ∧ (Bk wL b19 #[.slice va i vc, .slice ma ((restTo (dsX X) (i)).length) mc] 33) ∧ (World.ownsRow wL h1 3 1 (.slice va i vc) (i) (flatI (runsTo (dsX X) i))) ∧ (World.ownsRow wL h1 55 2 (.slice ma ((restTo (dsX X) (i)).length) mc) ((restTo (dsX X) (i)).length) (flat (pairs (restTo (dsX X) i)))) ∧ (h1 ≤ wL.heap.size) ∧ (i ≤ 5)) _ ⟨0, none, 0, none, 0, rfl, n30.ok, G25, e40, e41, (n30.ne rfl (n18.ne rfl n16.at_)), (n30.ne rfl n18.at_), n30.at_, B26, B27, W21.bk, O37, O38, z36, by omega⟩ ?_
 rintro m42 aI39 w44 ⟨i, va, vc, ma, mc, hmI39, okI39, GI39, s1I39, s2I39, s3I39, s4I39, s9I39, kb3I39, kb9I39, kb19I39, oVI39, oMI39, zh1I39, hiI39⟩ KI39 hKI39
 refine wp_seq_k (fun K45 hK45 => ?_)
 refine wp_region_lit ?_
 refine sv okI39 rfl (wn _ rfl) rfl (o_ltI s9I39 ev_const) (fun an46 n46 => ?_)
 refine wpList_nil ?_
 refine th_n (hK45 _ _ ?_)
 refine wp_seq_k (fun K47 hK47 => ?_)
 by_cases c48 : (i : Int) < 5
 ·refine wp_cond_true ((n46.at_).trans (congrArg Value.bool (decide_eq_true c48))) ?_
  refine wp_skip ?_
  refine th_n (hK47 _ _ ?_)
  refine wp_seq_k (fun K49 hK49 => ?_)
  refine wp_block ?_
  refine wp_seq_k (fun K50 hK50 => ?_)
  refine wp_region_lit ?_
  refine sv n46.ok rfl (wn _ rfl) rfl (o_mv (n46.ne rfl s9I39)) (fun an51 n51 => ?_)
  refine sv n51.ok rfl (wn _ rfl) rfl (o_as n51.at_) (fun an52 n52 => ?_)
  refine wpList_nil ?_
  refine th_n (hK50 _ _ ?_)
  refine wp_seq_k (fun K53 hK53 => ?_)
  refine wp_region_lit ?_
  refine sv n52.ok rfl (wn _ rfl) rfl (o_as ev_const) (fun an54 n54 => ?_)
  refine wpList_nil ?_
  refine th_n (hK53 _ _ ?_)
  refine wp_seq_k (fun K55 hK55 => ?_)
  refine wp_block ?_
  have e57 := n54.ne rfl (n52.ne rfl (n51.ne rfl (n46.ne rfl s1I39)))
  have e58 := n54.ne rfl (n52.ne rfl (n51.ne rfl (n46.ne rfl s2I39)))
  have e59 := n54.ne rfl (n52.ne rfl (n51.ne rfl (n46.ne rfl s3I39)))
  have e60 := n54.ne rfl (n52.ne rfl (n51.ne rfl (n46.ne rfl s4I39)))
  have e61 := n54.ne rfl (n52.ne rfl (n51.ne rfl (n46.ne rfl s9I39)))
  refine lp (fun (nL : Nat) (aL : Act) (wL : World) => ∃ n : Nat, nL = 1000 - n ∧ Ok 77 aL ∧ Gr w wL ∧ (aL.eval (.tmp 1) = .pointer (some ⟨b3, 0, none⟩)) ∧ (aL.eval (.tmp 2) = .pointer (some ⟨b9, 0, none⟩)) ∧ (aL.eval (.tmp 3) = .bool false) ∧ (aL.eval (.tmp 4) = .pointer (some ⟨b19, 0, none⟩)) ∧ (aL.eval (.tmp 5) = .int .i64 (i : Int)) ∧ (aL.eval (.tmp 6) = .int .i64 (n : Int)) ∧ (aL.eval (.tmp 9) = .int .i64 (i : Int)) ∧ (Bk wL b3 (wArr X) 49) ∧ (Bk wL b9 #[.slice none 0 0, .slice none 0 0] 33) ∧ (Bk wL b19 #[.slice va i vc, .slice ma ((restTo (dsX X) (i)).length) mc] 33) ∧ (World.ownsRow wL h1 3 1 (.slice va i vc) (i) (flatI (runsTo (dsX X) i))) ∧ (World.ownsRow wL h1 55 2 (.slice ma ((restTo (dsX X) (i)).length) mc) ((restTo (dsX X) (i)).length) (flat (pairs (restTo (dsX X) i)))) ∧ (h1 ≤ wL.heap.size) ∧ (n ≤ 1000) ∧ (∀ c, 1 ≤ c → c ≤ n → (dsX X) i c = true)) _ ⟨0, rfl, n54.ok, GI39, e57, e58, e59, e60, (n54.ne rfl n52.at_), n54.at_, e61, kb3I39, kb9I39, kb19I39, oVI39, oMI39, zh1I39, by omega, fun c h1 h2 => by omega⟩ ?_
  rintro m62 aI56 w64 ⟨n, hmI56, okI56, GI56, s1I56, s2I56, s3I56, s4I56, s5I56, s6I56, s9I56, kb3I56, kb9I56, kb19I56, oVI56, oMI56, zh1I56, hnI56, hallI56⟩ KI56 hKI56
  refine wp_seq_k (fun K65 hK65 => ?_)
  refine wp_seq_k (fun K66 hK66 => ?_)
  refine wp_region_lit ?_
  refine sv okI56 rfl (wn _ rfl) rfl (o_mv s6I56) (fun an67 n67 => ?_)
  refine sv n67.ok rfl (wn _ rfl) rfl (o_ltI n67.at_ ev_const) (fun an68 n68 => ?_)
  refine sv n68.ok rfl (wn _ rfl) rfl (o_mv n68.at_) (fun an69 n69 => ?_)
  by_cases c70 : (n : Int) < 1000
  ·have e71 := (n69.at_).trans (congrArg Value.bool (decide_eq_true c70))
   have e73 := n69.ne rfl (n68.ne rfl (n67.ne rfl s1I56))
   refine sv n69.ok rfl (wgT rfl (yl 2 true rfl e71) rfl) rfl (o_ldR e73 kb3I56 Tryz.underlying49 rfl (dots_sz X)) (fun an74 n74 => ?_)
   have e75 := n74.ne rfl (n69.ne rfl (n68.ne rfl (n67.ne rfl s5I56)))
   refine sv n74.ok rfl (wgT rfl (yl 2 true rfl (n74.ne rfl e71)) rfl) rfl (o_mv e75) (fun an76 n76 => ?_)
   have e77 := n76.ne rfl (n74.ne rfl (n69.ne rfl (n68.ne rfl (n67.ne rfl s6I56))))
   refine sv n76.ok rfl (wgT rfl (yl 2 true rfl (n76.ne rfl (n74.ne rfl e71))) rfl) rfl (o_mv e77) (fun an78 n78 => ?_)
   have e79 := n78.ne rfl (n76.ne rfl (n74.ne rfl e71))
   refine sv n78.ok rfl (wgT rfl (yl 2 true rfl e79) rfl) rfl (o_add (r := ((n + 1 : Nat) : Int)) n78.at_ ev_const (by omega) (by omega)) (fun an80 n80 => ?_)
   refine sv n80.ok rfl (wgT rfl (yl 2 true rfl (n80.ne rfl e79)) rfl) rfl (o_bd (cells := #[.int .i64 (i : Int), .int .i64 ((n + 1 : Nat) : Int)]) (vs := [(0, .int .i64 (i : Int)), (1, .int .i64 ((n + 1 : Nat) : Int))]) (by simp [(n80.ne rfl (n78.ne rfl n76.at_)), n80.at_, ev_const]) (by kernel_rfl)) (fun an81 n81 => ?_)
   have e82 := n81.ne rfl (n80.ne rfl (n78.ne rfl (n76.ne rfl n74.at_)))
   refine sc n81.ok rfl (wgT rfl (yl 2 true rfl (n81.ne rfl (n80.ne rfl e79))) rfl) rfl (o_f2 Tryz.func72 rfl rfl rfl e82 n81.at_) (rhas_any X (i) (n + 1) w64 hX (by omega) (by omega)) ?_
   rintro _ w84 ⟨rfl, g85⟩
   refine ⟨_, rfl, fun an83 n83 => ?_⟩
   have G86 := GI56.trans g85
   have B87 := kb3I56.gr g85
   have B88 := kb9I56.gr g85
   have B89 := kb19I56.gr g85
   have z90 := Nat.le_trans zh1I56 g85.size
   have O91 := ow_gr oVI56 g85
   have O92 := ow_gr oMI56 g85
   have e93 := n83.ne rfl (n81.ne rfl (n80.ne rfl e79))
   refine sv n83.ok rfl (wn _ rfl) rfl (o_pkT e93 n83.at_) (fun an94 n94 => ?_)
   refine wpList_nil ?_
   refine th_n (hK66 _ _ ?_)
   cases c95 : (dsX X (i) (n + 1))
   ·refine wp_cond_false ((n94.at_).trans (congrArg Value.bool (c95))) ?_
    have hR : run (dsX X) i = n := run_is hallI56 (.inr c95) hnI56
    refine wp_exit ?_
    refine th_x ?_
    refine th_x ?_
    refine ib_x ?_
    refine th_n (hK55 _ _ ?_)
    refine wp_seq_k (fun K96 hK96 => ?_)
    refine wp_region_lit ?_
    have e97 := n94.ne rfl (n83.ne rfl (n81.ne rfl (n80.ne rfl (n78.ne rfl (n76.ne rfl (n74.ne rfl (n69.ne rfl (n68.ne rfl (n67.ne rfl s4I56)))))))))
    refine sv n94.ok rfl (wn _ rfl) rfl (o_fa (z := 1) e97 Tryz.underlying33 rfl (by kernel_rfl) rfl rfl) (fun an98 n98 => ?_)
    refine sv n98.ok rfl (wn _ rfl) rfl (o_ld n98.at_ (Tryz.isAgg30 _) (B89.cell _ rfl)) (fun an99 n99 => ?_)
    have e100 := n99.ne rfl (n98.ne rfl (n94.ne rfl (n83.ne rfl (n81.ne rfl (n80.ne rfl (n78.ne rfl e77))))))
    refine sv n99.ok rfl (wn _ rfl) rfl (o_mv e100) (fun an101 n101 => ?_)
    obtain ⟨i102, i102a, i102b, i102c⟩ := info3_of (show (Tryz.prog.info? 3).map (fun i => (i.zero, i.size)) = some (some (.int .i64 0), 1) by kernel_rfl)
    refine sals (cs := #[.int .i64 (n : Int)]) n101.ok rfl (wn _ rfl) rfl (o_bs (vs := [(0, .int .i64 (n : Int))]) (by simp [n101.at_, ev_const]) Tryz.underlying30 i102a i102b (by rw [i102c]; rfl) (by rw [i102c]; rfl) (by rw [i102c]; kernel_rfl)) (fun an103 w105 b104 W106 n103 => ?_)
    have G113 := G86.trans W106.gr
    have B114 := B87.gr W106.gr
    have B115 := B88.gr W106.gr
    have B116 := B89.gr W106.gr
    have z117 := Nat.le_trans z90 W106.gr.size
    have O118 := ow_gr O91 W106.gr
    have O119 := ow_gr O92 W106.gr
    obtain ⟨i120, i120a, i120b, i120c, i120d⟩ := info_of (show (Tryz.prog.info? 3).map (fun i => (i.zero, i.size, i.bytes)) = some (some (.int .i64 0), 1, 8) by kernel_rfl)
    refine s_app (base := h1) (n := i) (xs := flatI (runsTo (dsX X) i)) (m := 1) (news := [.int .i64 (n : Int)]) n103.ok (wn _ rfl) rfl Tryz.underlying30 i120a i120b i120c i120d rfl (by omega) (n103.ne rfl (n101.ne rfl n99.at_)) O118 n103.at_ rfl (fun j u hj => bk_cells W106.bk j u hj) (fun u hu => by simp at hu; subst hu; rfl) (by simp only [maxLen]; omega) (by omega) z117 (fun an121 w122 v123 O126 gg127 n121 => ?_)
    obtain ⟨a124, c125, rfl, c125l⟩ := ow_form O126
    have G128 := Gr.grown G113 gg127 (fun k e => Nat.le_trans l35 (ow_lt O118 k e))
    have B129 := B114.grown gg127 (ow_lt O118) l32
    have B130 := B115.grown gg127 (ow_lt O118) l33
    have B131 := B116.grown gg127 (ow_lt O118) l34
    have z133 := Nat.le_trans z117 gg127.size
    have O134 := ow_grown O119 O118 gg127 rfl
    have O135 : w122.ownsRow h1 3 1 (.slice a124 (i + 1) c125) (i + 1) (flatI (runsTo (dsX X) (i + 1))) := by rw [runsTo_succ, hR, ← flatI_snoc]; exact O126
    have e136 := n121.ne rfl (n103.ne rfl (n101.ne rfl (n99.ne rfl (n98.ne rfl e97))))
    refine sv n121.ok rfl (wn _ rfl) rfl (o_fa (z := 1) e136 Tryz.underlying33 rfl (by kernel_rfl) rfl rfl) (fun an137 n137 => ?_)
    refine ssC rfl (wn _ rfl) (o_st n137.at_ (n137.ne rfl n121.at_) B131 rfl (by kernel_rfl) rfl) B131 (fun w138 u139 u139b => ?_)
    have G140 : Gr w w138 := Below.upd G128 l24 u139
    have B141 := B129.upd u139 (Nat.ne_of_lt l22)
    have B142 := B130.upd u139 (Nat.ne_of_lt l23)
    have z144 : h1 ≤ w138.heap.size := by rw [u139.size]; exact z133
    have O145 := ow_upd O135 u139 l34
    have O146 := ow_upd O134 u139 l34
    refine wpList_nil ?_
    refine th_n (hK96 _ _ ?_)
    refine wp_seq_k (fun K147 hK147 => ?_)
    refine wp_region_lit ?_
    have e148 := n137.ne rfl (n121.ne rfl (n103.ne rfl (n101.ne rfl e100)))
    refine sv n137.ok rfl (wn _ rfl) rfl (o_mv e148) (fun an149 n149 => ?_)
    refine sv n149.ok rfl (wn _ rfl) rfl (o_add (r := ((n + 2 : Nat) : Int)) n149.at_ ev_const (by omega) (by omega)) (fun an150 n150 => ?_)
    refine sv n150.ok rfl (wn _ rfl) rfl (o_as n150.at_) (fun an151 n151 => ?_)
    refine wpList_nil ?_
    refine th_n (hK147 _ _ ?_)
    refine wp_block ?_
    have hst : restTo (dsX X) i ++ restB (dsX X) i (n + 2) = restTo (dsX X) i := by rw [restB_start (dsX X) i (n + 2) (by omega), List.append_nil]
    have e153 := n151.ne rfl (n150.ne rfl (n149.ne rfl (n137.ne rfl (n121.ne rfl (n103.ne rfl (n101.ne rfl (n99.ne rfl (n98.ne rfl (n94.ne rfl (n83.ne rfl (n81.ne rfl (n80.ne rfl (n78.ne rfl (n76.ne rfl (n74.ne rfl e73)))))))))))))))
    have e154 := n151.ne rfl (n150.ne rfl (n149.ne rfl (n137.ne rfl (n121.ne rfl (n103.ne rfl (n101.ne rfl (n99.ne rfl (n98.ne rfl (n94.ne rfl (n83.ne rfl (n81.ne rfl (n80.ne rfl (n78.ne rfl (n76.ne rfl (n74.ne rfl (n69.ne rfl (n68.ne rfl (n67.ne rfl s2I56))))))))))))))))))
    have e155 := n151.ne rfl (n150.ne rfl (n149.ne rfl (n137.ne rfl (n121.ne rfl (n103.ne rfl (n101.ne rfl (n99.ne rfl (n98.ne rfl (n94.ne rfl (n83.ne rfl (n81.ne rfl (n80.ne rfl (n78.ne rfl (n76.ne rfl (n74.ne rfl (n69.ne rfl (n68.ne rfl (n67.ne rfl s3I56))))))))))))))))))
    have e156 := n151.ne rfl (n150.ne rfl (n149.ne rfl (n137.ne rfl e136)))
    have e157 := n151.ne rfl (n150.ne rfl (n149.ne rfl (n137.ne rfl (n121.ne rfl (n103.ne rfl (n101.ne rfl (n99.ne rfl (n98.ne rfl (n94.ne rfl (n83.ne rfl (n81.ne rfl (n80.ne rfl (n78.ne rfl (n76.ne rfl e75))))))))))))))
    have e158 := n151.ne rfl (n150.ne rfl (n149.ne rfl (n137.ne rfl (n121.ne rfl (n103.ne rfl (n101.ne rfl (n99.ne rfl (n98.ne rfl (n94.ne rfl (n83.ne rfl (n81.ne rfl (n80.ne rfl (n78.ne rfl (n76.ne rfl (n74.ne rfl (n69.ne rfl (n68.ne rfl (n67.ne rfl s9I56))))))))))))))))))
    refine lp (fun (nL : Nat) (aL : Act) (wL : World) => ∃ c : Nat, ∃ ma : Option Addr, ∃ mc : Nat, nL = 1002 - c ∧ Ok 77 aL ∧ Gr w wL ∧ (aL.eval (.tmp 1) = .pointer (some ⟨b3, 0, none⟩)) ∧ (aL.eval (.tmp 2) = .pointer (some ⟨b9, 0, none⟩)) ∧ (aL.eval (.tmp 3) = .bool false) ∧ (aL.eval (.tmp 4) = .pointer (some ⟨b19, 0, none⟩)) ∧ (aL.eval (.tmp 5) = .int .i64 (i : Int)) ∧ (aL.eval (.tmp 7) = .int .i64 (c : Int)) ∧ (aL.eval (.tmp 9) = .int .i64 (i : Int)) ∧ (Bk wL b3 (wArr X) 49) ∧ (Bk wL b9 #[.slice none 0 0, .slice none 0 0] 33) ∧ (Bk wL b19 #[.slice a124 (i + 1) c125, .slice ma ((restTo (dsX X) i ++ restB (dsX X) i c).length) mc] 33) ∧ (World.ownsRow wL h1 3 1 (.slice a124 (i + 1) c125) (i + 1) (flatI (runsTo (dsX X) (i + 1)))) ∧ (World.ownsRow wL h1 55 2 (.slice ma ((restTo (dsX X) i ++ restB (dsX X) i c).length) mc) ((restTo (dsX X) i ++ restB (dsX X) i c).length) (flat (pairs (restTo (dsX X) i ++ restB (dsX X) i c)))) ∧ (h1 ≤ wL.heap.size) ∧ (n + 2 ≤ c) ∧ (c ≤ 1001 ∨ c = n + 2)) _ ⟨n + 2, ma, mc, rfl, n151.ok, G140, e153, e154, e155, e156, e157, n151.at_, e158, B141, B142, (by rw [hst]; exact u139b), O145, (by rw [hst]; exact O146), z144, by omega, by omega⟩ ?_
    rintro m159 aI152 w161 ⟨c, ma, mc, hmI152, okI152, GI152, s1I152, s2I152, s3I152, s4I152, s5I152, s7I152, s9I152, kb3I152, kb9I152, kb19I152, oVI152, oMI152, zh1I152, hc1I152, hc2I152⟩ KI152 hKI152
    refine wp_seq_k (fun K162 hK162 => ?_)
    refine wp_seq_k (fun K163 hK163 => ?_)
    refine wp_region_lit ?_
    refine sv okI152 rfl (wn _ rfl) rfl (o_mv s7I152) (fun an164 n164 => ?_)
    refine sv n164.ok rfl (wn _ rfl) rfl (o_leI n164.at_ ev_const) (fun an165 n165 => ?_)
    refine wpList_nil ?_
    refine th_n (hK163 _ _ ?_)
    by_cases c166 : (c : Int) ≤ 1000
    ·refine wp_cond_true ((n165.at_).trans (congrArg Value.bool (decide_eq_true c166))) ?_
     refine wp_skip ?_
     refine th_n (hK162 _ _ ?_)
     refine wp_seq_k (fun K167 hK167 => ?_)
     refine wp_block ?_
     refine wp_seq_k (fun K168 hK168 => ?_)
     refine wp_region_lit ?_
     refine sv n165.ok rfl (wn _ rfl) rfl (o_mv (n165.ne rfl (n164.ne rfl s5I152))) (fun an169 n169 => ?_)
     have e170 := n169.ne rfl (n165.ne rfl (n164.ne rfl s7I152))
     refine sv n169.ok rfl (wn _ rfl) rfl (o_mv e170) (fun an171 n171 => ?_)
     refine sv n171.ok rfl (wn _ rfl) rfl (o_bd (cells := #[.int .i64 (i : Int), .int .i64 (c : Int)]) (vs := [(0, .int .i64 (i : Int)), (1, .int .i64 (c : Int))]) (by simp [(n171.ne rfl n169.at_), n171.at_, ev_const]) (by kernel_rfl)) (fun an172 n172 => ?_)
     refine sal (cs := #[.int .i64 0, .int .i64 0]) n172.ok rfl (wn _ rfl) rfl (o_al (z := .agg #[.int .i64 0, .int .i64 0]) (by kernel_rfl)) (fun an173 w175 b174 W176 n173 => ?_)
     have l177 : b3 < b174 := by rw [W176.eq]; exact kb3I152.lt
     have l178 : b9 < b174 := by rw [W176.eq]; exact kb9I152.lt
     have l179 : b19 < b174 := by rw [W176.eq]; exact kb19I152.lt
     have l180 : w.heap.size ≤ b174 := by rw [W176.eq]; exact GI152.size
     have l181 : ∀ k, Value.ownBlock (.slice a124 (i + 1) c125) = some k → k < b174 := fun k e => by rw [W176.eq]; exact ow_in oVI152 k e
     have l182 : ∀ k, Value.ownBlock (.slice ma ((restTo (dsX X) i ++ restB (dsX X) i c).length) mc) = some k → k < b174 := fun k e => by rw [W176.eq]; exact ow_in oMI152 k e
     have G183 := GI152.trans W176.gr
     have B184 := kb3I152.gr W176.gr
     have B185 := kb9I152.gr W176.gr
     have B186 := kb19I152.gr W176.gr
     have z187 := Nat.le_trans zh1I152 W176.gr.size
     have O188 := ow_gr oVI152 W176.gr
     have O189 := ow_gr oMI152 W176.gr
     refine ssR rfl (wn _ rfl) (o_stR n173.at_ (n173.ne rfl n172.at_) W176.bk (by kernel_rfl) rfl (by simp [Value.oneCell'])) W176.bk (fun w190 u191 u191b => ?_)
     have G192 : Gr w w190 := Below.upd G183 l180 u191
     have B193 := B184.upd u191 (Nat.ne_of_lt l177)
     have B194 := B185.upd u191 (Nat.ne_of_lt l178)
     have B195 := B186.upd u191 (Nat.ne_of_lt l179)
     have z196 : h1 ≤ w190.heap.size := by rw [u191.size]; exact z187
     have O197 := ow_upd_ne O188 u191 l181
     have O198 := ow_upd_ne O189 u191 l182
     refine wpList_nil ?_
     refine th_n (hK168 _ _ ?_)
     refine wp_seq_k (fun K199 hK199 => ?_)
     refine wp_region_lit ?_
     have e200 := n173.ne rfl (n172.ne rfl (n171.ne rfl (n169.ne rfl (n165.ne rfl (n164.ne rfl s1I152)))))
     refine sv n173.ok rfl (wn _ rfl) rfl (o_ldR e200 B193 Tryz.underlying49 rfl (dots_sz X)) (fun an201 n201 => ?_)
     refine sv n201.ok rfl (wn _ rfl) rfl (o_ldR (n201.ne rfl n173.at_) u191b Tryz.underlying55 rfl (by kernel_rfl)) (fun an202 n202 => ?_)
     refine sc n202.ok rfl (wn _ rfl) rfl (o_f2 Tryz.func72 rfl rfl rfl (n202.ne rfl n201.at_) n202.at_) (rhas_any X (i) (c) w190 hX (by omega) (by omega)) ?_
     rintro _ w204 ⟨rfl, g205⟩
     refine ⟨_, rfl, fun an203 n203 => ?_⟩
     have G206 := G192.trans g205
     have B207 := B193.gr g205
     have B208 := B194.gr g205
     have B209 := B195.gr g205
     have B210 := u191b.gr g205
     have z211 := Nat.le_trans z196 g205.size
     have O212 := ow_gr O197 g205
     have O213 := ow_gr O198 g205
     refine wpList_nil ?_
     refine th_n (hK199 _ _ ?_)
     cases c214 : (dsX X (i) (c))
     ·refine wp_cond_false ((n203.at_).trans (congrArg Value.bool (c214))) ?_
      have h41 : (dsX X) i c = false := c214
      refine wp_skip ?_
      refine ib_n ?_
      refine th_n (hK167 _ _ ?_)
      refine wp_region_lit ?_
      have e215 := n203.ne rfl (n202.ne rfl (n201.ne rfl (n173.ne rfl (n172.ne rfl (n171.ne rfl e170)))))
      refine sv n203.ok rfl (wn _ rfl) rfl (o_mv e215) (fun an216 n216 => ?_)
      refine sv n216.ok rfl (wn _ rfl) rfl (o_add (r := ((c + 1 : Nat) : Int)) n216.at_ ev_const (by omega) (by omega)) (fun an217 n217 => ?_)
      refine sv n217.ok rfl (wn _ rfl) rfl (o_as n217.at_) (fun an218 n218 => ?_)
      refine wpList_nil ?_
      have e219 := n218.ne rfl (n217.ne rfl (n216.ne rfl (n203.ne rfl (n202.ne rfl (n201.ne rfl e200)))))
      have e220 := n218.ne rfl (n217.ne rfl (n216.ne rfl (n203.ne rfl (n202.ne rfl (n201.ne rfl (n173.ne rfl (n172.ne rfl (n171.ne rfl (n169.ne rfl (n165.ne rfl (n164.ne rfl s2I152)))))))))))
      have e221 := n218.ne rfl (n217.ne rfl (n216.ne rfl (n203.ne rfl (n202.ne rfl (n201.ne rfl (n173.ne rfl (n172.ne rfl (n171.ne rfl (n169.ne rfl (n165.ne rfl (n164.ne rfl s3I152)))))))))))
      have e222 := n218.ne rfl (n217.ne rfl (n216.ne rfl (n203.ne rfl (n202.ne rfl (n201.ne rfl (n173.ne rfl (n172.ne rfl (n171.ne rfl (n169.ne rfl (n165.ne rfl (n164.ne rfl s4I152)))))))))))
      have e223 := n218.ne rfl (n217.ne rfl (n216.ne rfl (n203.ne rfl (n202.ne rfl (n201.ne rfl (n173.ne rfl (n172.ne rfl (n171.ne rfl (n169.ne rfl (n165.ne rfl (n164.ne rfl s5I152)))))))))))
      have e224 := n218.ne rfl (n217.ne rfl (n216.ne rfl (n203.ne rfl (n202.ne rfl (n201.ne rfl (n173.ne rfl (n172.ne rfl (n171.ne rfl (n169.ne rfl (n165.ne rfl (n164.ne rfl s9I152)))))))))))
      exact th_n (hKI152 _ _ _ (by omega) ⟨c + 1, ma, mc, rfl, n218.ok, G206, e219, e220, e221, e222, e223, n218.at_, e224, B207, B208, (by rw [restB_no h41]; exact B209), O212, (by rw [restB_no h41]; exact O213), z211, by omega, by omega⟩)
     ·refine wp_cond_true ((n203.at_).trans (congrArg Value.bool (c214))) ?_
      have h41 : (dsX X) i c = true := c214
      refine wp_region_lit ?_
      have e225 := n203.ne rfl (n202.ne rfl (n201.ne rfl (n173.ne rfl (n172.ne rfl (n171.ne rfl (n169.ne rfl (n165.ne rfl (n164.ne rfl s4I152))))))))
      refine sv n203.ok rfl (wn _ rfl) rfl (o_fa (z := 1) e225 Tryz.underlying33 rfl (by kernel_rfl) rfl rfl) (fun an226 n226 => ?_)
      refine sv n226.ok rfl (wn _ rfl) rfl (o_ld n226.at_ (Tryz.isAgg31 _) (B209.cell _ rfl)) (fun an227 n227 => ?_)
      have e228 := n227.ne rfl (n226.ne rfl (n203.ne rfl (n202.ne rfl (n201.ne rfl n173.at_))))
      refine sv n227.ok rfl (wn _ rfl) rfl (o_ldR e228 B210 Tryz.underlying55 rfl (by kernel_rfl)) (fun an229 n229 => ?_)
      obtain ⟨i230, i230a, i230b, i230c⟩ := info3_of (show (Tryz.prog.info? 55).map (fun i => (i.zero, i.size)) = some (some (.agg #[.int .i64 0, .int .i64 0]), 2) by kernel_rfl)
      refine sals (cs := #[.int .i64 (i : Int), .int .i64 (c : Int)]) n229.ok rfl (wn _ rfl) rfl (o_bs (vs := [(0, .agg #[.int .i64 (i : Int), .int .i64 (c : Int)])]) (by simp [n229.at_, ev_const]) Tryz.underlying31 i230a i230b (by rw [i230c]; rfl) (by rw [i230c]; rfl) (by rw [i230c]; kernel_rfl)) (fun an231 w233 b232 W234 n231 => ?_)
      have G242 := G206.trans W234.gr
      have B243 := B207.gr W234.gr
      have B244 := B208.gr W234.gr
      have B245 := B209.gr W234.gr
      have z247 := Nat.le_trans z211 W234.gr.size
      have O248 := ow_gr O212 W234.gr
      have O249 := ow_gr O213 W234.gr
      have hML : (restTo (dsX X) i ++ restB (dsX X) i c).length ≤ 6100 := rest_len (dsX X) i c (by omega) (by omega)
      have hap := restB_app (dsX X) i c (by omega) h41
      obtain ⟨i250, i250a, i250b, i250c, i250d⟩ := info_of (show (Tryz.prog.info? 55).map (fun i => (i.zero, i.size, i.bytes)) = some (some (.agg #[.int .i64 0, .int .i64 0]), 2, 16) by kernel_rfl)
      refine s_app (base := h1) (n := (restTo (dsX X) i ++ restB (dsX X) i c).length) (xs := flat (pairs (restTo (dsX X) i ++ restB (dsX X) i c))) (m := 1) (news := [.int .i64 (i : Int), .int .i64 (c : Int)]) n231.ok (wn _ rfl) rfl Tryz.underlying31 i250a i250b i250c i250d rfl (by omega) (n231.ne rfl (n229.ne rfl n227.at_)) O249 n231.at_ rfl (fun j u hj => bk_cells W234.bk j u hj) (fun u hu => by simp at hu; rcases hu with rfl | rfl <;> rfl) (by simp only [maxLen]; omega) (by omega) z247 (fun an251 w252 v253 O256 gg257 n251 => ?_)
      obtain ⟨a254, c255, rfl, c255l⟩ := ow_form O256
      have G258 := Gr.grown G242 gg257 (fun k e => Nat.le_trans l35 (ow_lt O249 k e))
      have B259 := B243.grown gg257 (ow_lt O249) l32
      have B260 := B244.grown gg257 (ow_lt O249) l33
      have B261 := B245.grown gg257 (ow_lt O249) l34
      have z264 := Nat.le_trans z247 gg257.size
      have O265 := ow_grown O248 O249 gg257 rfl
      have O266 : w252.ownsRow h1 55 2 (.slice a254 ((restTo (dsX X) i ++ restB (dsX X) i c).length + 1) c255) ((restTo (dsX X) i ++ restB (dsX X) i c).length + 1) (flat (pairs (restTo (dsX X) i ++ restB (dsX X) i c)) ++ [.int .i64 (i : Int), .int .i64 (c : Int)]) := O256
      have e267 := n251.ne rfl (n231.ne rfl (n229.ne rfl (n227.ne rfl (n226.ne rfl e225))))
      refine sv n251.ok rfl (wn _ rfl) rfl (o_fa (z := 1) e267 Tryz.underlying33 rfl (by kernel_rfl) rfl rfl) (fun an268 n268 => ?_)
      refine ssC rfl (wn _ rfl) (o_st n268.at_ (n268.ne rfl n251.at_) B261 rfl (by kernel_rfl) rfl) B261 (fun w269 u270 u270b => ?_)
      have G271 : Gr w w269 := Below.upd G258 l24 u270
      have B272 := B259.upd u270 (Nat.ne_of_lt l22)
      have B273 := B260.upd u270 (Nat.ne_of_lt l23)
      have z276 : h1 ≤ w269.heap.size := by rw [u270.size]; exact z264
      have O277 := ow_upd O265 u270 l34
      have O278 := ow_upd O266 u270 l34
      refine wpList_nil ?_
      refine ib_n ?_
      refine th_n (hK167 _ _ ?_)
      refine wp_region_lit ?_
      have e279 := n268.ne rfl (n251.ne rfl (n231.ne rfl (n229.ne rfl (n227.ne rfl (n226.ne rfl (n203.ne rfl (n202.ne rfl (n201.ne rfl (n173.ne rfl (n172.ne rfl (n171.ne rfl e170)))))))))))
      refine sv n268.ok rfl (wn _ rfl) rfl (o_mv e279) (fun an280 n280 => ?_)
      refine sv n280.ok rfl (wn _ rfl) rfl (o_add (r := ((c + 1 : Nat) : Int)) n280.at_ ev_const (by omega) (by omega)) (fun an281 n281 => ?_)
      refine sv n281.ok rfl (wn _ rfl) rfl (o_as n281.at_) (fun an282 n282 => ?_)
      refine wpList_nil ?_
      have e283 := n282.ne rfl (n281.ne rfl (n280.ne rfl (n268.ne rfl (n251.ne rfl (n231.ne rfl (n229.ne rfl (n227.ne rfl (n226.ne rfl (n203.ne rfl (n202.ne rfl (n201.ne rfl e200)))))))))))
      have e284 := n282.ne rfl (n281.ne rfl (n280.ne rfl (n268.ne rfl (n251.ne rfl (n231.ne rfl (n229.ne rfl (n227.ne rfl (n226.ne rfl (n203.ne rfl (n202.ne rfl (n201.ne rfl (n173.ne rfl (n172.ne rfl (n171.ne rfl (n169.ne rfl (n165.ne rfl (n164.ne rfl s2I152)))))))))))))))))
      have e285 := n282.ne rfl (n281.ne rfl (n280.ne rfl (n268.ne rfl (n251.ne rfl (n231.ne rfl (n229.ne rfl (n227.ne rfl (n226.ne rfl (n203.ne rfl (n202.ne rfl (n201.ne rfl (n173.ne rfl (n172.ne rfl (n171.ne rfl (n169.ne rfl (n165.ne rfl (n164.ne rfl s3I152)))))))))))))))))
      have e286 := n282.ne rfl (n281.ne rfl (n280.ne rfl (n268.ne rfl e267)))
      have e287 := n282.ne rfl (n281.ne rfl (n280.ne rfl (n268.ne rfl (n251.ne rfl (n231.ne rfl (n229.ne rfl (n227.ne rfl (n226.ne rfl (n203.ne rfl (n202.ne rfl (n201.ne rfl (n173.ne rfl (n172.ne rfl (n171.ne rfl (n169.ne rfl (n165.ne rfl (n164.ne rfl s5I152)))))))))))))))))
      have e288 := n282.ne rfl (n281.ne rfl (n280.ne rfl (n268.ne rfl (n251.ne rfl (n231.ne rfl (n229.ne rfl (n227.ne rfl (n226.ne rfl (n203.ne rfl (n202.ne rfl (n201.ne rfl (n173.ne rfl (n172.ne rfl (n171.ne rfl (n169.ne rfl (n165.ne rfl (n164.ne rfl s9I152)))))))))))))))))
      exact th_n (hKI152 _ _ _ (by omega) ⟨c + 1, a254, c255, rfl, n282.ok, G271, e283, e284, e285, e286, e287, n282.at_, e288, B272, B273, (by rw [hap.1]; exact u270b), O277, (by rw [hap.1, hap.2, ← flatD_snoc]; exact O278), z276, by omega, by omega⟩)
    ·refine wp_cond_false ((n165.at_).trans (congrArg Value.bool (decide_eq_false c166))) ?_
     refine wp_exit ?_
     refine th_x ?_
     refine th_x ?_
     refine ib_x ?_
     refine ib_n ?_
     refine th_n (hK49 _ _ ?_)
     refine wp_region_lit ?_
     refine sv n165.ok rfl (wn _ rfl) rfl (o_add (r := ((i + 1 : Nat) : Int)) (n165.ne rfl (n164.ne rfl s9I152)) ev_const (by omega) (by omega)) (fun an289 n289 => ?_)
     refine sv n289.ok rfl (wn _ rfl) rfl (o_mv n289.at_) (fun an290 n290 => ?_)
     refine wpList_nil ?_
     have hre : restTo (dsX X) i ++ restB (dsX X) i c = restTo (dsX X) (i + 1) := rest_end (dsX X) i c hc1I152 (by omega) hR
     have e291 := n290.ne rfl (n289.ne rfl (n165.ne rfl (n164.ne rfl s1I152)))
     have e292 := n290.ne rfl (n289.ne rfl (n165.ne rfl (n164.ne rfl s2I152)))
     have e293 := n290.ne rfl (n289.ne rfl (n165.ne rfl (n164.ne rfl s3I152)))
     have e294 := n290.ne rfl (n289.ne rfl (n165.ne rfl (n164.ne rfl s4I152)))
     exact th_n (hKI39 _ _ _ (by omega) ⟨i + 1, a124, c125, ma, mc, rfl, n290.ok, GI152, e291, e292, e293, e294, n290.at_, kb3I152, kb9I152, (by rw [← hre]; exact kb19I152), oVI152, (by rw [← hre]; exact oMI152), zh1I152, by omega⟩)
   ·refine wp_cond_true ((n94.at_).trans (congrArg Value.bool (c95))) ?_
    have h21 : (dsX X) i (n + 1) = true := c95
    refine wp_skip ?_
    refine th_n (hK65 _ _ ?_)
    refine wp_block ?_
    refine wp_region_lit ?_
    have e295 := n94.ne rfl (n83.ne rfl (n81.ne rfl (n80.ne rfl (n78.ne rfl e77))))
    refine sv n94.ok rfl (wn _ rfl) rfl (o_mv e295) (fun an296 n296 => ?_)
    refine sv n296.ok rfl (wn _ rfl) rfl (o_add (r := ((n + 1 : Nat) : Int)) n296.at_ ev_const (by omega) (by omega)) (fun an297 n297 => ?_)
    refine sv n297.ok rfl (wn _ rfl) rfl (o_as n297.at_) (fun an298 n298 => ?_)
    refine wpList_nil ?_
    refine ib_n ?_
    have e299 := n298.ne rfl (n297.ne rfl (n296.ne rfl (n94.ne rfl (n83.ne rfl (n81.ne rfl (n80.ne rfl (n78.ne rfl (n76.ne rfl (n74.ne rfl e73)))))))))
    have e300 := n298.ne rfl (n297.ne rfl (n296.ne rfl (n94.ne rfl (n83.ne rfl (n81.ne rfl (n80.ne rfl (n78.ne rfl (n76.ne rfl (n74.ne rfl (n69.ne rfl (n68.ne rfl (n67.ne rfl s2I56))))))))))))
    have e301 := n298.ne rfl (n297.ne rfl (n296.ne rfl (n94.ne rfl (n83.ne rfl (n81.ne rfl (n80.ne rfl (n78.ne rfl (n76.ne rfl (n74.ne rfl (n69.ne rfl (n68.ne rfl (n67.ne rfl s3I56))))))))))))
    have e302 := n298.ne rfl (n297.ne rfl (n296.ne rfl (n94.ne rfl (n83.ne rfl (n81.ne rfl (n80.ne rfl (n78.ne rfl (n76.ne rfl (n74.ne rfl (n69.ne rfl (n68.ne rfl (n67.ne rfl s4I56))))))))))))
    have e303 := n298.ne rfl (n297.ne rfl (n296.ne rfl (n94.ne rfl (n83.ne rfl (n81.ne rfl (n80.ne rfl (n78.ne rfl (n76.ne rfl e75))))))))
    have e304 := n298.ne rfl (n297.ne rfl (n296.ne rfl (n94.ne rfl (n83.ne rfl (n81.ne rfl (n80.ne rfl (n78.ne rfl (n76.ne rfl (n74.ne rfl (n69.ne rfl (n68.ne rfl (n67.ne rfl s9I56))))))))))))
    exact th_n (hKI56 _ _ _ (by omega) ⟨n + 1, rfl, n298.ok, G86, e299, e300, e301, e302, e303, n298.at_, e304, B87, B88, B89, O91, O92, z90, by omega, all_snoc hallI56 h21⟩)
  ·have e305 := (n69.at_).trans (congrArg Value.bool (decide_eq_false c70))
   have hR : run (dsX X) i = n := run_is hallI56 (.inl (by omega)) hnI56
   refine sn n69.ok rfl (wgF rfl (yl 2 false rfl e305) rfl) rfl (fun an307 n307 => ?_)
   refine sn n307.ok rfl (wgF rfl (yl 2 false rfl (n307.ne rfl e305)) rfl) rfl (fun an308 n308 => ?_)
   refine sn n308.ok rfl (wgF rfl (yl 2 false rfl (n308.ne rfl (n307.ne rfl e305))) rfl) rfl (fun an309 n309 => ?_)
   have e310 := n309.ne rfl (n308.ne rfl (n307.ne rfl e305))
   refine sn n309.ok rfl (wgF rfl (yl 2 false rfl e310) rfl) rfl (fun an311 n311 => ?_)
   refine sn n311.ok rfl (wgF rfl (yl 2 false rfl (n311.ne rfl e310)) rfl) rfl (fun an312 n312 => ?_)
   refine sn n312.ok rfl (wgF rfl (yl 2 false rfl (n312.ne rfl (n311.ne rfl e310))) rfl) rfl (fun an313 n313 => ?_)
   have e314 := n313.ne rfl (n312.ne rfl (n311.ne rfl e310))
   refine sv n313.ok rfl (wn _ rfl) rfl (o_pkF e314 ev_const) (fun an315 n315 => ?_)
   refine wpList_nil ?_
   refine th_n (hK66 _ _ ?_)
   refine wp_cond_false (n315.at_) ?_
   refine wp_exit ?_
   refine th_x ?_
   refine th_x ?_
   refine ib_x ?_
   refine th_n (hK55 _ _ ?_)
   refine wp_seq_k (fun K316 hK316 => ?_)
   refine wp_region_lit ?_
   have e317 := n315.ne rfl (n313.ne rfl (n312.ne rfl (n311.ne rfl (n309.ne rfl (n308.ne rfl (n307.ne rfl (n69.ne rfl (n68.ne rfl (n67.ne rfl s4I56)))))))))
   refine sv n315.ok rfl (wn _ rfl) rfl (o_fa (z := 1) e317 Tryz.underlying33 rfl (by kernel_rfl) rfl rfl) (fun an318 n318 => ?_)
   refine sv n318.ok rfl (wn _ rfl) rfl (o_ld n318.at_ (Tryz.isAgg30 _) (kb19I56.cell _ rfl)) (fun an319 n319 => ?_)
   have e320 := n319.ne rfl (n318.ne rfl (n315.ne rfl (n313.ne rfl (n312.ne rfl (n311.ne rfl (n309.ne rfl (n308.ne rfl (n307.ne rfl (n69.ne rfl (n68.ne rfl (n67.ne rfl s6I56)))))))))))
   refine sv n319.ok rfl (wn _ rfl) rfl (o_mv e320) (fun an321 n321 => ?_)
   obtain ⟨i322, i322a, i322b, i322c⟩ := info3_of (show (Tryz.prog.info? 3).map (fun i => (i.zero, i.size)) = some (some (.int .i64 0), 1) by kernel_rfl)
   refine sals (cs := #[.int .i64 (n : Int)]) n321.ok rfl (wn _ rfl) rfl (o_bs (vs := [(0, .int .i64 (n : Int))]) (by simp [n321.at_, ev_const]) Tryz.underlying30 i322a i322b (by rw [i322c]; rfl) (by rw [i322c]; rfl) (by rw [i322c]; kernel_rfl)) (fun an323 w325 b324 W326 n323 => ?_)
   have G333 := GI56.trans W326.gr
   have B334 := kb3I56.gr W326.gr
   have B335 := kb9I56.gr W326.gr
   have B336 := kb19I56.gr W326.gr
   have z337 := Nat.le_trans zh1I56 W326.gr.size
   have O338 := ow_gr oVI56 W326.gr
   have O339 := ow_gr oMI56 W326.gr
   obtain ⟨i340, i340a, i340b, i340c, i340d⟩ := info_of (show (Tryz.prog.info? 3).map (fun i => (i.zero, i.size, i.bytes)) = some (some (.int .i64 0), 1, 8) by kernel_rfl)
   refine s_app (base := h1) (n := i) (xs := flatI (runsTo (dsX X) i)) (m := 1) (news := [.int .i64 (n : Int)]) n323.ok (wn _ rfl) rfl Tryz.underlying30 i340a i340b i340c i340d rfl (by omega) (n323.ne rfl (n321.ne rfl n319.at_)) O338 n323.at_ rfl (fun j u hj => bk_cells W326.bk j u hj) (fun u hu => by simp at hu; subst hu; rfl) (by simp only [maxLen]; omega) (by omega) z337 (fun an341 w342 v343 O346 gg347 n341 => ?_)
   obtain ⟨a344, c345, rfl, c345l⟩ := ow_form O346
   have G348 := Gr.grown G333 gg347 (fun k e => Nat.le_trans l35 (ow_lt O338 k e))
   have B349 := B334.grown gg347 (ow_lt O338) l32
   have B350 := B335.grown gg347 (ow_lt O338) l33
   have B351 := B336.grown gg347 (ow_lt O338) l34
   have z353 := Nat.le_trans z337 gg347.size
   have O354 := ow_grown O339 O338 gg347 rfl
   have O355 : w342.ownsRow h1 3 1 (.slice a344 (i + 1) c345) (i + 1) (flatI (runsTo (dsX X) (i + 1))) := by rw [runsTo_succ, hR, ← flatI_snoc]; exact O346
   have e356 := n341.ne rfl (n323.ne rfl (n321.ne rfl (n319.ne rfl (n318.ne rfl e317))))
   refine sv n341.ok rfl (wn _ rfl) rfl (o_fa (z := 1) e356 Tryz.underlying33 rfl (by kernel_rfl) rfl rfl) (fun an357 n357 => ?_)
   refine ssC rfl (wn _ rfl) (o_st n357.at_ (n357.ne rfl n341.at_) B351 rfl (by kernel_rfl) rfl) B351 (fun w358 u359 u359b => ?_)
   have G360 : Gr w w358 := Below.upd G348 l24 u359
   have B361 := B349.upd u359 (Nat.ne_of_lt l22)
   have B362 := B350.upd u359 (Nat.ne_of_lt l23)
   have z364 : h1 ≤ w358.heap.size := by rw [u359.size]; exact z353
   have O365 := ow_upd O355 u359 l34
   have O366 := ow_upd O354 u359 l34
   refine wpList_nil ?_
   refine th_n (hK316 _ _ ?_)
   refine wp_seq_k (fun K367 hK367 => ?_)
   refine wp_region_lit ?_
   have e368 := n357.ne rfl (n341.ne rfl (n323.ne rfl (n321.ne rfl e320)))
   refine sv n357.ok rfl (wn _ rfl) rfl (o_mv e368) (fun an369 n369 => ?_)
   refine sv n369.ok rfl (wn _ rfl) rfl (o_add (r := ((n + 2 : Nat) : Int)) n369.at_ ev_const (by omega) (by omega)) (fun an370 n370 => ?_)
   refine sv n370.ok rfl (wn _ rfl) rfl (o_as n370.at_) (fun an371 n371 => ?_)
   refine wpList_nil ?_
   refine th_n (hK367 _ _ ?_)
   refine wp_block ?_
   have hst : restTo (dsX X) i ++ restB (dsX X) i (n + 2) = restTo (dsX X) i := by rw [restB_start (dsX X) i (n + 2) (by omega), List.append_nil]
   have e373 := n371.ne rfl (n370.ne rfl (n369.ne rfl (n357.ne rfl (n341.ne rfl (n323.ne rfl (n321.ne rfl (n319.ne rfl (n318.ne rfl (n315.ne rfl (n313.ne rfl (n312.ne rfl (n311.ne rfl (n309.ne rfl (n308.ne rfl (n307.ne rfl (n69.ne rfl (n68.ne rfl (n67.ne rfl s1I56))))))))))))))))))
   have e374 := n371.ne rfl (n370.ne rfl (n369.ne rfl (n357.ne rfl (n341.ne rfl (n323.ne rfl (n321.ne rfl (n319.ne rfl (n318.ne rfl (n315.ne rfl (n313.ne rfl (n312.ne rfl (n311.ne rfl (n309.ne rfl (n308.ne rfl (n307.ne rfl (n69.ne rfl (n68.ne rfl (n67.ne rfl s2I56))))))))))))))))))
   have e375 := n371.ne rfl (n370.ne rfl (n369.ne rfl (n357.ne rfl (n341.ne rfl (n323.ne rfl (n321.ne rfl (n319.ne rfl (n318.ne rfl (n315.ne rfl (n313.ne rfl (n312.ne rfl (n311.ne rfl (n309.ne rfl (n308.ne rfl (n307.ne rfl (n69.ne rfl (n68.ne rfl (n67.ne rfl s3I56))))))))))))))))))
   have e376 := n371.ne rfl (n370.ne rfl (n369.ne rfl (n357.ne rfl e356)))
   have e377 := n371.ne rfl (n370.ne rfl (n369.ne rfl (n357.ne rfl (n341.ne rfl (n323.ne rfl (n321.ne rfl (n319.ne rfl (n318.ne rfl (n315.ne rfl (n313.ne rfl (n312.ne rfl (n311.ne rfl (n309.ne rfl (n308.ne rfl (n307.ne rfl (n69.ne rfl (n68.ne rfl (n67.ne rfl s5I56))))))))))))))))))
   have e378 := n371.ne rfl (n370.ne rfl (n369.ne rfl (n357.ne rfl (n341.ne rfl (n323.ne rfl (n321.ne rfl (n319.ne rfl (n318.ne rfl (n315.ne rfl (n313.ne rfl (n312.ne rfl (n311.ne rfl (n309.ne rfl (n308.ne rfl (n307.ne rfl (n69.ne rfl (n68.ne rfl (n67.ne rfl s9I56))))))))))))))))))
   refine lp (fun (nL : Nat) (aL : Act) (wL : World) => ∃ c : Nat, ∃ ma : Option Addr, ∃ mc : Nat, nL = 1002 - c ∧ Ok 77 aL ∧ Gr w wL ∧ (aL.eval (.tmp 1) = .pointer (some ⟨b3, 0, none⟩)) ∧ (aL.eval (.tmp 2) = .pointer (some ⟨b9, 0, none⟩)) ∧ (aL.eval (.tmp 3) = .bool false) ∧ (aL.eval (.tmp 4) = .pointer (some ⟨b19, 0, none⟩)) ∧ (aL.eval (.tmp 5) = .int .i64 (i : Int)) ∧ (aL.eval (.tmp 7) = .int .i64 (c : Int)) ∧ (aL.eval (.tmp 9) = .int .i64 (i : Int)) ∧ (Bk wL b3 (wArr X) 49) ∧ (Bk wL b9 #[.slice none 0 0, .slice none 0 0] 33) ∧ (Bk wL b19 #[.slice a344 (i + 1) c345, .slice ma ((restTo (dsX X) i ++ restB (dsX X) i c).length) mc] 33) ∧ (World.ownsRow wL h1 3 1 (.slice a344 (i + 1) c345) (i + 1) (flatI (runsTo (dsX X) (i + 1)))) ∧ (World.ownsRow wL h1 55 2 (.slice ma ((restTo (dsX X) i ++ restB (dsX X) i c).length) mc) ((restTo (dsX X) i ++ restB (dsX X) i c).length) (flat (pairs (restTo (dsX X) i ++ restB (dsX X) i c)))) ∧ (h1 ≤ wL.heap.size) ∧ (n + 2 ≤ c) ∧ (c ≤ 1001 ∨ c = n + 2)) _ ⟨n + 2, ma, mc, rfl, n371.ok, G360, e373, e374, e375, e376, e377, n371.at_, e378, B361, B362, (by rw [hst]; exact u359b), O365, (by rw [hst]; exact O366), z364, by omega, by omega⟩ ?_
   rintro m379 aI372 w381 ⟨c, ma, mc, hmI372, okI372, GI372, s1I372, s2I372, s3I372, s4I372, s5I372, s7I372, s9I372, kb3I372, kb9I372, kb19I372, oVI372, oMI372, zh1I372, hc1I372, hc2I372⟩ KI372 hKI372
   refine wp_seq_k (fun K382 hK382 => ?_)
   refine wp_seq_k (fun K383 hK383 => ?_)
   refine wp_region_lit ?_
   refine sv okI372 rfl (wn _ rfl) rfl (o_mv s7I372) (fun an384 n384 => ?_)
   refine sv n384.ok rfl (wn _ rfl) rfl (o_leI n384.at_ ev_const) (fun an385 n385 => ?_)
   refine wpList_nil ?_
   refine th_n (hK383 _ _ ?_)
   by_cases c386 : (c : Int) ≤ 1000
   ·refine wp_cond_true ((n385.at_).trans (congrArg Value.bool (decide_eq_true c386))) ?_
    refine wp_skip ?_
    refine th_n (hK382 _ _ ?_)
    refine wp_seq_k (fun K387 hK387 => ?_)
    refine wp_block ?_
    refine wp_seq_k (fun K388 hK388 => ?_)
    refine wp_region_lit ?_
    refine sv n385.ok rfl (wn _ rfl) rfl (o_mv (n385.ne rfl (n384.ne rfl s5I372))) (fun an389 n389 => ?_)
    have e390 := n389.ne rfl (n385.ne rfl (n384.ne rfl s7I372))
    refine sv n389.ok rfl (wn _ rfl) rfl (o_mv e390) (fun an391 n391 => ?_)
    refine sv n391.ok rfl (wn _ rfl) rfl (o_bd (cells := #[.int .i64 (i : Int), .int .i64 (c : Int)]) (vs := [(0, .int .i64 (i : Int)), (1, .int .i64 (c : Int))]) (by simp [(n391.ne rfl n389.at_), n391.at_, ev_const]) (by kernel_rfl)) (fun an392 n392 => ?_)
    refine sal (cs := #[.int .i64 0, .int .i64 0]) n392.ok rfl (wn _ rfl) rfl (o_al (z := .agg #[.int .i64 0, .int .i64 0]) (by kernel_rfl)) (fun an393 w395 b394 W396 n393 => ?_)
    have l397 : b3 < b394 := by rw [W396.eq]; exact kb3I372.lt
    have l398 : b9 < b394 := by rw [W396.eq]; exact kb9I372.lt
    have l399 : b19 < b394 := by rw [W396.eq]; exact kb19I372.lt
    have l400 : w.heap.size ≤ b394 := by rw [W396.eq]; exact GI372.size
    have l401 : ∀ k, Value.ownBlock (.slice a344 (i + 1) c345) = some k → k < b394 := fun k e => by rw [W396.eq]; exact ow_in oVI372 k e
    have l402 : ∀ k, Value.ownBlock (.slice ma ((restTo (dsX X) i ++ restB (dsX X) i c).length) mc) = some k → k < b394 := fun k e => by rw [W396.eq]; exact ow_in oMI372 k e
    have G403 := GI372.trans W396.gr
    have B404 := kb3I372.gr W396.gr
    have B405 := kb9I372.gr W396.gr
    have B406 := kb19I372.gr W396.gr
    have z407 := Nat.le_trans zh1I372 W396.gr.size
    have O408 := ow_gr oVI372 W396.gr
    have O409 := ow_gr oMI372 W396.gr
    refine ssR rfl (wn _ rfl) (o_stR n393.at_ (n393.ne rfl n392.at_) W396.bk (by kernel_rfl) rfl (by simp [Value.oneCell'])) W396.bk (fun w410 u411 u411b => ?_)
    have G412 : Gr w w410 := Below.upd G403 l400 u411
    have B413 := B404.upd u411 (Nat.ne_of_lt l397)
    have B414 := B405.upd u411 (Nat.ne_of_lt l398)
    have B415 := B406.upd u411 (Nat.ne_of_lt l399)
    have z416 : h1 ≤ w410.heap.size := by rw [u411.size]; exact z407
    have O417 := ow_upd_ne O408 u411 l401
    have O418 := ow_upd_ne O409 u411 l402
    refine wpList_nil ?_
    refine th_n (hK388 _ _ ?_)
    refine wp_seq_k (fun K419 hK419 => ?_)
    refine wp_region_lit ?_
    have e420 := n393.ne rfl (n392.ne rfl (n391.ne rfl (n389.ne rfl (n385.ne rfl (n384.ne rfl s1I372)))))
    refine sv n393.ok rfl (wn _ rfl) rfl (o_ldR e420 B413 Tryz.underlying49 rfl (dots_sz X)) (fun an421 n421 => ?_)
    refine sv n421.ok rfl (wn _ rfl) rfl (o_ldR (n421.ne rfl n393.at_) u411b Tryz.underlying55 rfl (by kernel_rfl)) (fun an422 n422 => ?_)
    refine sc n422.ok rfl (wn _ rfl) rfl (o_f2 Tryz.func72 rfl rfl rfl (n422.ne rfl n421.at_) n422.at_) (rhas_any X (i) (c) w410 hX (by omega) (by omega)) ?_
    rintro _ w424 ⟨rfl, g425⟩
    refine ⟨_, rfl, fun an423 n423 => ?_⟩
    have G426 := G412.trans g425
    have B427 := B413.gr g425
    have B428 := B414.gr g425
    have B429 := B415.gr g425
    have B430 := u411b.gr g425
    have z431 := Nat.le_trans z416 g425.size
    have O432 := ow_gr O417 g425
    have O433 := ow_gr O418 g425
    refine wpList_nil ?_
    refine th_n (hK419 _ _ ?_)
    cases c434 : (dsX X (i) (c))
    ·refine wp_cond_false ((n423.at_).trans (congrArg Value.bool (c434))) ?_
     have h41 : (dsX X) i c = false := c434
     refine wp_skip ?_
     refine ib_n ?_
     refine th_n (hK387 _ _ ?_)
     refine wp_region_lit ?_
     have e435 := n423.ne rfl (n422.ne rfl (n421.ne rfl (n393.ne rfl (n392.ne rfl (n391.ne rfl e390)))))
     refine sv n423.ok rfl (wn _ rfl) rfl (o_mv e435) (fun an436 n436 => ?_)
     refine sv n436.ok rfl (wn _ rfl) rfl (o_add (r := ((c + 1 : Nat) : Int)) n436.at_ ev_const (by omega) (by omega)) (fun an437 n437 => ?_)
     refine sv n437.ok rfl (wn _ rfl) rfl (o_as n437.at_) (fun an438 n438 => ?_)
     refine wpList_nil ?_
     have e439 := n438.ne rfl (n437.ne rfl (n436.ne rfl (n423.ne rfl (n422.ne rfl (n421.ne rfl e420)))))
     have e440 := n438.ne rfl (n437.ne rfl (n436.ne rfl (n423.ne rfl (n422.ne rfl (n421.ne rfl (n393.ne rfl (n392.ne rfl (n391.ne rfl (n389.ne rfl (n385.ne rfl (n384.ne rfl s2I372)))))))))))
     have e441 := n438.ne rfl (n437.ne rfl (n436.ne rfl (n423.ne rfl (n422.ne rfl (n421.ne rfl (n393.ne rfl (n392.ne rfl (n391.ne rfl (n389.ne rfl (n385.ne rfl (n384.ne rfl s3I372)))))))))))
     have e442 := n438.ne rfl (n437.ne rfl (n436.ne rfl (n423.ne rfl (n422.ne rfl (n421.ne rfl (n393.ne rfl (n392.ne rfl (n391.ne rfl (n389.ne rfl (n385.ne rfl (n384.ne rfl s4I372)))))))))))
     have e443 := n438.ne rfl (n437.ne rfl (n436.ne rfl (n423.ne rfl (n422.ne rfl (n421.ne rfl (n393.ne rfl (n392.ne rfl (n391.ne rfl (n389.ne rfl (n385.ne rfl (n384.ne rfl s5I372)))))))))))
     have e444 := n438.ne rfl (n437.ne rfl (n436.ne rfl (n423.ne rfl (n422.ne rfl (n421.ne rfl (n393.ne rfl (n392.ne rfl (n391.ne rfl (n389.ne rfl (n385.ne rfl (n384.ne rfl s9I372)))))))))))
     exact th_n (hKI372 _ _ _ (by omega) ⟨c + 1, ma, mc, rfl, n438.ok, G426, e439, e440, e441, e442, e443, n438.at_, e444, B427, B428, (by rw [restB_no h41]; exact B429), O432, (by rw [restB_no h41]; exact O433), z431, by omega, by omega⟩)
    ·refine wp_cond_true ((n423.at_).trans (congrArg Value.bool (c434))) ?_
     have h41 : (dsX X) i c = true := c434
     refine wp_region_lit ?_
     have e445 := n423.ne rfl (n422.ne rfl (n421.ne rfl (n393.ne rfl (n392.ne rfl (n391.ne rfl (n389.ne rfl (n385.ne rfl (n384.ne rfl s4I372))))))))
     refine sv n423.ok rfl (wn _ rfl) rfl (o_fa (z := 1) e445 Tryz.underlying33 rfl (by kernel_rfl) rfl rfl) (fun an446 n446 => ?_)
     refine sv n446.ok rfl (wn _ rfl) rfl (o_ld n446.at_ (Tryz.isAgg31 _) (B429.cell _ rfl)) (fun an447 n447 => ?_)
     have e448 := n447.ne rfl (n446.ne rfl (n423.ne rfl (n422.ne rfl (n421.ne rfl n393.at_))))
     refine sv n447.ok rfl (wn _ rfl) rfl (o_ldR e448 B430 Tryz.underlying55 rfl (by kernel_rfl)) (fun an449 n449 => ?_)
     obtain ⟨i450, i450a, i450b, i450c⟩ := info3_of (show (Tryz.prog.info? 55).map (fun i => (i.zero, i.size)) = some (some (.agg #[.int .i64 0, .int .i64 0]), 2) by kernel_rfl)
     refine sals (cs := #[.int .i64 (i : Int), .int .i64 (c : Int)]) n449.ok rfl (wn _ rfl) rfl (o_bs (vs := [(0, .agg #[.int .i64 (i : Int), .int .i64 (c : Int)])]) (by simp [n449.at_, ev_const]) Tryz.underlying31 i450a i450b (by rw [i450c]; rfl) (by rw [i450c]; rfl) (by rw [i450c]; kernel_rfl)) (fun an451 w453 b452 W454 n451 => ?_)
     have G462 := G426.trans W454.gr
     have B463 := B427.gr W454.gr
     have B464 := B428.gr W454.gr
     have B465 := B429.gr W454.gr
     have z467 := Nat.le_trans z431 W454.gr.size
     have O468 := ow_gr O432 W454.gr
     have O469 := ow_gr O433 W454.gr
     have hML : (restTo (dsX X) i ++ restB (dsX X) i c).length ≤ 6100 := rest_len (dsX X) i c (by omega) (by omega)
     have hap := restB_app (dsX X) i c (by omega) h41
     obtain ⟨i470, i470a, i470b, i470c, i470d⟩ := info_of (show (Tryz.prog.info? 55).map (fun i => (i.zero, i.size, i.bytes)) = some (some (.agg #[.int .i64 0, .int .i64 0]), 2, 16) by kernel_rfl)
     refine s_app (base := h1) (n := (restTo (dsX X) i ++ restB (dsX X) i c).length) (xs := flat (pairs (restTo (dsX X) i ++ restB (dsX X) i c))) (m := 1) (news := [.int .i64 (i : Int), .int .i64 (c : Int)]) n451.ok (wn _ rfl) rfl Tryz.underlying31 i470a i470b i470c i470d rfl (by omega) (n451.ne rfl (n449.ne rfl n447.at_)) O469 n451.at_ rfl (fun j u hj => bk_cells W454.bk j u hj) (fun u hu => by simp at hu; rcases hu with rfl | rfl <;> rfl) (by simp only [maxLen]; omega) (by omega) z467 (fun an471 w472 v473 O476 gg477 n471 => ?_)
     obtain ⟨a474, c475, rfl, c475l⟩ := ow_form O476
     have G478 := Gr.grown G462 gg477 (fun k e => Nat.le_trans l35 (ow_lt O469 k e))
     have B479 := B463.grown gg477 (ow_lt O469) l32
     have B480 := B464.grown gg477 (ow_lt O469) l33
     have B481 := B465.grown gg477 (ow_lt O469) l34
     have z484 := Nat.le_trans z467 gg477.size
     have O485 := ow_grown O468 O469 gg477 rfl
     have O486 : w472.ownsRow h1 55 2 (.slice a474 ((restTo (dsX X) i ++ restB (dsX X) i c).length + 1) c475) ((restTo (dsX X) i ++ restB (dsX X) i c).length + 1) (flat (pairs (restTo (dsX X) i ++ restB (dsX X) i c)) ++ [.int .i64 (i : Int), .int .i64 (c : Int)]) := O476
     have e487 := n471.ne rfl (n451.ne rfl (n449.ne rfl (n447.ne rfl (n446.ne rfl e445))))
     refine sv n471.ok rfl (wn _ rfl) rfl (o_fa (z := 1) e487 Tryz.underlying33 rfl (by kernel_rfl) rfl rfl) (fun an488 n488 => ?_)
     refine ssC rfl (wn _ rfl) (o_st n488.at_ (n488.ne rfl n471.at_) B481 rfl (by kernel_rfl) rfl) B481 (fun w489 u490 u490b => ?_)
     have G491 : Gr w w489 := Below.upd G478 l24 u490
     have B492 := B479.upd u490 (Nat.ne_of_lt l22)
     have B493 := B480.upd u490 (Nat.ne_of_lt l23)
     have z496 : h1 ≤ w489.heap.size := by rw [u490.size]; exact z484
     have O497 := ow_upd O485 u490 l34
     have O498 := ow_upd O486 u490 l34
     refine wpList_nil ?_
     refine ib_n ?_
     refine th_n (hK387 _ _ ?_)
     refine wp_region_lit ?_
     have e499 := n488.ne rfl (n471.ne rfl (n451.ne rfl (n449.ne rfl (n447.ne rfl (n446.ne rfl (n423.ne rfl (n422.ne rfl (n421.ne rfl (n393.ne rfl (n392.ne rfl (n391.ne rfl e390)))))))))))
     refine sv n488.ok rfl (wn _ rfl) rfl (o_mv e499) (fun an500 n500 => ?_)
     refine sv n500.ok rfl (wn _ rfl) rfl (o_add (r := ((c + 1 : Nat) : Int)) n500.at_ ev_const (by omega) (by omega)) (fun an501 n501 => ?_)
     refine sv n501.ok rfl (wn _ rfl) rfl (o_as n501.at_) (fun an502 n502 => ?_)
     refine wpList_nil ?_
     have e503 := n502.ne rfl (n501.ne rfl (n500.ne rfl (n488.ne rfl (n471.ne rfl (n451.ne rfl (n449.ne rfl (n447.ne rfl (n446.ne rfl (n423.ne rfl (n422.ne rfl (n421.ne rfl e420)))))))))))
     have e504 := n502.ne rfl (n501.ne rfl (n500.ne rfl (n488.ne rfl (n471.ne rfl (n451.ne rfl (n449.ne rfl (n447.ne rfl (n446.ne rfl (n423.ne rfl (n422.ne rfl (n421.ne rfl (n393.ne rfl (n392.ne rfl (n391.ne rfl (n389.ne rfl (n385.ne rfl (n384.ne rfl s2I372)))))))))))))))))
     have e505 := n502.ne rfl (n501.ne rfl (n500.ne rfl (n488.ne rfl (n471.ne rfl (n451.ne rfl (n449.ne rfl (n447.ne rfl (n446.ne rfl (n423.ne rfl (n422.ne rfl (n421.ne rfl (n393.ne rfl (n392.ne rfl (n391.ne rfl (n389.ne rfl (n385.ne rfl (n384.ne rfl s3I372)))))))))))))))))
     have e506 := n502.ne rfl (n501.ne rfl (n500.ne rfl (n488.ne rfl e487)))
     have e507 := n502.ne rfl (n501.ne rfl (n500.ne rfl (n488.ne rfl (n471.ne rfl (n451.ne rfl (n449.ne rfl (n447.ne rfl (n446.ne rfl (n423.ne rfl (n422.ne rfl (n421.ne rfl (n393.ne rfl (n392.ne rfl (n391.ne rfl (n389.ne rfl (n385.ne rfl (n384.ne rfl s5I372)))))))))))))))))
     have e508 := n502.ne rfl (n501.ne rfl (n500.ne rfl (n488.ne rfl (n471.ne rfl (n451.ne rfl (n449.ne rfl (n447.ne rfl (n446.ne rfl (n423.ne rfl (n422.ne rfl (n421.ne rfl (n393.ne rfl (n392.ne rfl (n391.ne rfl (n389.ne rfl (n385.ne rfl (n384.ne rfl s9I372)))))))))))))))))
     exact th_n (hKI372 _ _ _ (by omega) ⟨c + 1, a474, c475, rfl, n502.ok, G491, e503, e504, e505, e506, e507, n502.at_, e508, B492, B493, (by rw [hap.1]; exact u490b), O497, (by rw [hap.1, hap.2, ← flatD_snoc]; exact O498), z496, by omega, by omega⟩)
   ·refine wp_cond_false ((n385.at_).trans (congrArg Value.bool (decide_eq_false c386))) ?_
    refine wp_exit ?_
    refine th_x ?_
    refine th_x ?_
    refine ib_x ?_
    refine ib_n ?_
    refine th_n (hK49 _ _ ?_)
    refine wp_region_lit ?_
    refine sv n385.ok rfl (wn _ rfl) rfl (o_add (r := ((i + 1 : Nat) : Int)) (n385.ne rfl (n384.ne rfl s9I372)) ev_const (by omega) (by omega)) (fun an509 n509 => ?_)
    refine sv n509.ok rfl (wn _ rfl) rfl (o_mv n509.at_) (fun an510 n510 => ?_)
    refine wpList_nil ?_
    have hre : restTo (dsX X) i ++ restB (dsX X) i c = restTo (dsX X) (i + 1) := rest_end (dsX X) i c hc1I372 (by omega) hR
    have e511 := n510.ne rfl (n509.ne rfl (n385.ne rfl (n384.ne rfl s1I372)))
    have e512 := n510.ne rfl (n509.ne rfl (n385.ne rfl (n384.ne rfl s2I372)))
    have e513 := n510.ne rfl (n509.ne rfl (n385.ne rfl (n384.ne rfl s3I372)))
    have e514 := n510.ne rfl (n509.ne rfl (n385.ne rfl (n384.ne rfl s4I372)))
    exact th_n (hKI39 _ _ _ (by omega) ⟨i + 1, a344, c345, ma, mc, rfl, n510.ok, GI372, e511, e512, e513, e514, n510.at_, kb3I372, kb9I372, (by rw [← hre]; exact kb19I372), oVI372, (by rw [← hre]; exact oMI372), zh1I372, by omega⟩)
 ·refine wp_cond_false ((n46.at_).trans (congrArg Value.bool (decide_eq_false c48))) ?_
  have hi5 : i = 5 := by omega
  refine wp_exit ?_
  refine th_x ?_
  refine th_x ?_
  refine ib_x ?_
  refine th_n (hK28 _ _ ?_)
  refine wp_seq_k (fun K515 hK515 => ?_)
  refine wp_block ?_
  subst hi5
  have htk : (runsTo (dsX X) 5).take 5 = runsTo (dsX X) 5 := List.take_of_length_le (by rw [runsTo_len]; omega)
  refine lp (fun (nL : Nat) (aL : Act) (wL : World) => ∃ q : Nat, ∃ ua : Option Addr, ∃ uc : Nat, nL = q ∧ Ok 77 aL ∧ Gr w wL ∧ (aL.eval (.tmp 2) = .pointer (some ⟨b9, 0, none⟩)) ∧ (aL.eval (.tmp 3) = .bool false) ∧ (aL.eval (.tmp 4) = .pointer (some ⟨b19, 0, none⟩)) ∧ (Bk wL b9 #[.slice none 0 0, .slice none 0 0] 33) ∧ (Bk wL b19 #[.slice ua q uc, .slice ma ((restTo (dsX X) (5)).length) mc] 33) ∧ (World.ownsRow wL h1 3 1 (.slice ua q uc) (q) (flatI ((runsTo (dsX X) 5).take q))) ∧ (World.ownsRow wL h1 55 2 (.slice ma ((restTo (dsX X) (5)).length) mc) ((restTo (dsX X) (5)).length) (flat (pairs (restTo (dsX X) 5)))) ∧ (h1 ≤ wL.heap.size) ∧ (q ≤ 5) ∧ (∀ s, q ≤ s → s < 5 → cv (runsTo (dsX X) 5) s = 0)) _ ⟨5, va, vc, rfl, n46.ok, GI39, (n46.ne rfl s2I39), (n46.ne rfl s3I39), (n46.ne rfl s4I39), kb9I39, kb19I39, (by rw [htk]; exact oVI39), oMI39, zh1I39, by omega, fun s h1 h2 => by omega⟩ ?_
  rintro m517 aI516 w519 ⟨q, ua, uc, hmI516, okI516, GI516, s2I516, s3I516, s4I516, kb9I516, kb19I516, oVI516, oMI516, zh1I516, hqI516, hzI516⟩ KI516 hKI516
  have hcap := own_cap oVI516
  refine wp_seq_k (fun K520 hK520 => ?_)
  refine wp_seq_k (fun K521 hK521 => ?_)
  refine wp_region_lit ?_
  refine sv okI516 rfl (wn _ rfl) rfl (o_fa (z := 1) s4I516 Tryz.underlying33 rfl (by kernel_rfl) rfl rfl) (fun an522 n522 => ?_)
  refine sv n522.ok rfl (wn _ rfl) rfl (o_ld n522.at_ (Tryz.isAgg30 _) (kb19I516.cell _ rfl)) (fun an523 n523 => ?_)
  refine sv n523.ok rfl (wn _ rfl) rfl (o_len n523.at_ Tryz.underlying30) (fun an524 n524 => ?_)
  refine sv n524.ok rfl (wn _ rfl) rfl (o_gtI n524.at_ ev_const) (fun an525 n525 => ?_)
  refine sv n525.ok rfl (wn _ rfl) rfl (o_mv n525.at_) (fun an526 n526 => ?_)
  by_cases c527 : (0 : Int) < (q : Int)
  ·have e528 := (n526.at_).trans (congrArg Value.bool (decide_eq_true c527))
   have e530 := n526.ne rfl (n525.ne rfl (n524.ne rfl (n523.ne rfl (n522.ne rfl s4I516))))
   refine sv n526.ok rfl (wgT rfl (yl 4 true rfl e528) rfl) rfl (o_fa (z := 1) e530 Tryz.underlying33 rfl (by kernel_rfl) rfl rfl) (fun an531 n531 => ?_)
   refine sv n531.ok rfl (wgT rfl (yl 4 true rfl (n531.ne rfl e528)) rfl) rfl (o_ld n531.at_ (Tryz.isAgg30 _) (kb19I516.cell _ rfl)) (fun an532 n532 => ?_)
   refine sv n532.ok rfl (wgT rfl (yl 4 true rfl (n532.ne rfl (n531.ne rfl e528))) rfl) rfl (o_fa (z := 1) (n532.ne rfl (n531.ne rfl e530)) Tryz.underlying33 rfl (by kernel_rfl) rfl rfl) (fun an533 n533 => ?_)
   have e534 := n533.ne rfl (n532.ne rfl (n531.ne rfl e528))
   refine sv n533.ok rfl (wgT rfl (yl 4 true rfl e534) rfl) rfl (o_ld n533.at_ (Tryz.isAgg30 _) (kb19I516.cell _ rfl)) (fun an535 n535 => ?_)
   refine sv n535.ok rfl (wgT rfl (yl 4 true rfl (n535.ne rfl e534)) rfl) rfl (o_len n535.at_ Tryz.underlying30) (fun an536 n536 => ?_)
   refine sv n536.ok rfl (wgT rfl (yl 4 true rfl (n536.ne rfl (n535.ne rfl e534))) rfl) rfl (o_sub (r := ((q - 1 : Nat) : Int)) n536.at_ ev_const (by omega) (by omega)) (fun an537 n537 => ?_)
   have e538 := n537.ne rfl (n536.ne rfl (n535.ne rfl e534))
   have e539 := n537.ne rfl (n536.ne rfl (n535.ne rfl (n533.ne rfl n532.at_)))
   obtain ⟨gVh540, h540a, -, h540c⟩ := ow_addr oVI516 (by omega)
   refine sv n537.ok rfl (wgT rfl (yl 4 true rfl e538) rfl) rfl (o_iaV (i := q - 1) (s := 1) h540a e539 n537.at_ Tryz.underlying30 (by kernel_rfl) (by omega)) (fun an541 n541 => ?_)
   refine sv n541.ok rfl (wgT rfl (yl 4 true rfl (n541.ne rfl e538)) rfl) rfl (o_ld n541.at_ (Tryz.isAgg3 _) (h540c _ _ (runs_take_at (dsX X) (by omega) (by omega)))) (fun an542 n542 => ?_)
   refine sv n542.ok rfl (wgT rfl (yl 4 true rfl (n542.ne rfl (n541.ne rfl e538))) rfl) rfl (o_eqI n542.at_ ev_const) (fun an543 n543 => ?_)
   have e544 := n543.ne rfl (n542.ne rfl (n541.ne rfl e538))
   refine sv n543.ok rfl (wn _ rfl) rfl (o_pkT e544 n543.at_) (fun an545 n545 => ?_)
   refine wpList_nil ?_
   refine th_n (hK521 _ _ ?_)
   by_cases c546 : ((run (dsX X) (q - 1) : Nat) : Int) = 0
   ·refine wp_cond_true ((n545.at_).trans (congrArg Value.bool (decide_eq_true c546))) ?_
    have h62 : run (dsX X) (q - 1) = 0 := by omega
    refine wp_skip ?_
    refine th_n (hK520 _ _ ?_)
    refine wp_block ?_
    refine wp_region_lit ?_
    have e547 := n545.ne rfl (n543.ne rfl (n542.ne rfl (n541.ne rfl (n537.ne rfl (n536.ne rfl (n535.ne rfl (n533.ne rfl (n532.ne rfl (n531.ne rfl e530)))))))))
    refine sv n545.ok rfl (wn _ rfl) rfl (o_fa (z := 1) e547 Tryz.underlying33 rfl (by kernel_rfl) rfl rfl) (fun an548 n548 => ?_)
    refine sv n548.ok rfl (wn _ rfl) rfl (o_ld n548.at_ (Tryz.isAgg30 _) (kb19I516.cell _ rfl)) (fun an549 n549 => ?_)
    refine sv n549.ok rfl (wn _ rfl) rfl (o_fa (z := 1) (n549.ne rfl (n548.ne rfl e547)) Tryz.underlying33 rfl (by kernel_rfl) rfl rfl) (fun an550 n550 => ?_)
    refine sv n550.ok rfl (wn _ rfl) rfl (o_ld n550.at_ (Tryz.isAgg30 _) (kb19I516.cell _ rfl)) (fun an551 n551 => ?_)
    refine sv n551.ok rfl (wn _ rfl) rfl (o_len n551.at_ Tryz.underlying30) (fun an552 n552 => ?_)
    refine sv n552.ok rfl (wn _ rfl) rfl (o_sub (r := ((q - 1 : Nat) : Int)) n552.at_ ev_const (by omega) (by omega)) (fun an553 n553 => ?_)
    have e554 := n553.ne rfl (n552.ne rfl (n551.ne rfl (n550.ne rfl n549.at_)))
    refine sv n553.ok rfl (wn _ rfl) rfl (o_cut (k := q - 1) (s := 1) e554 n553.at_ Tryz.underlying30 (by kernel_rfl) (by omega)) (fun an555 n555 => ?_)
    have e556 := n555.ne rfl (n553.ne rfl (n552.ne rfl (n551.ne rfl (n550.ne rfl (n549.ne rfl (n548.ne rfl e547))))))
    refine sv n555.ok rfl (wn _ rfl) rfl (o_fa (z := 1) e556 Tryz.underlying33 rfl (by kernel_rfl) rfl rfl) (fun an557 n557 => ?_)
    refine ssC rfl (wn _ rfl) (o_st n557.at_ (n557.ne rfl n555.at_) kb19I516 rfl (by kernel_rfl) rfl) kb19I516 (fun w558 u559 u559b => ?_)
    have G560 : Gr w w558 := Below.upd GI516 l24 u559
    have B561 := kb9I516.upd u559 (Nat.ne_of_lt l23)
    have z562 : h1 ≤ w558.heap.size := by rw [u559.size]; exact zh1I516
    have O563 := ow_upd oVI516 u559 l34
    have O564 := ow_upd oMI516 u559 l34
    refine wpList_nil ?_
    refine ib_n ?_
    have e565 := n557.ne rfl (n555.ne rfl (n553.ne rfl (n552.ne rfl (n551.ne rfl (n550.ne rfl (n549.ne rfl (n548.ne rfl (n545.ne rfl (n543.ne rfl (n542.ne rfl (n541.ne rfl (n537.ne rfl (n536.ne rfl (n535.ne rfl (n533.ne rfl (n532.ne rfl (n531.ne rfl (n526.ne rfl (n525.ne rfl (n524.ne rfl (n523.ne rfl (n522.ne rfl s2I516))))))))))))))))))))))
    have e566 := n557.ne rfl (n555.ne rfl (n553.ne rfl (n552.ne rfl (n551.ne rfl (n550.ne rfl (n549.ne rfl (n548.ne rfl (n545.ne rfl (n543.ne rfl (n542.ne rfl (n541.ne rfl (n537.ne rfl (n536.ne rfl (n535.ne rfl (n533.ne rfl (n532.ne rfl (n531.ne rfl (n526.ne rfl (n525.ne rfl (n524.ne rfl (n523.ne rfl (n522.ne rfl s3I516))))))))))))))))))))))
    exact th_n (hKI516 _ _ _ (by omega) ⟨q - 1, ua, uc, rfl, n557.ok, G560, e565, e566, (n557.ne rfl e556), B561, u559b, (own_cut_runs (dsX X) (by omega) O563), O564, z562, by omega, zero_back hzI516 h62 (by omega) (by omega)⟩)
   ·refine wp_cond_false ((n545.at_).trans (congrArg Value.bool (decide_eq_false c546))) ?_
    have h62 : run (dsX X) (q - 1) ≠ 0 := by omega
    have hFV := form_vec (dsX X) q hqI516 hzI516 (.inr ⟨by omega, h62⟩)
    refine wp_exit ?_
    refine th_x ?_
    refine th_x ?_
    refine ib_x ?_
    refine th_n (hK515 _ _ ?_)
    refine wp_seq_k (fun K567 hK567 => ?_)
    refine h_start [b9] 7 #[false, false, false, false, false, false, false] (by kernel_rfl) rfl rfl ?_
    have S568 := Sx.drew [b9] w519
    have g569 := (Gr.refl w519).drew
    generalize w519.drew = w570 at *
    have G571 := GI516.trans g569
    have B572 := kb9I516.gr g569
    have O575 := ow_gr oVI516 g569
    have O576 := ow_gr oMI516 g569
    have e577 := n545.ne rfl (n543.ne rfl (n542.ne rfl (n541.ne rfl (n537.ne rfl (n536.ne rfl (n535.ne rfl (n533.ne rfl (n532.ne rfl (n531.ne rfl e530)))))))))
    refine h_take (i := 0) (fuel := 6) n545.ok rfl rfl rfl (by kernel_rfl) (by kernel_rfl) (by kernel_rfl) (fun _ _ _ _ _ h => h) (wn _ rfl) (fun x hx => o_ldR e577 (Sx.bk hx kb19I516 (by simp <;> omega)) Tryz.underlying33 rfl (by kernel_rfl)) S568 (fun an578 n578 => ?_)
    refine h_take (i := 1) (fuel := 5) n578.ok rfl rfl rfl (by kernel_rfl) (by kernel_rfl) (by kernel_rfl) (fun _ _ _ _ _ h => h) (wn _ rfl) (fun x hx => o_fa (z := 1) (n578.ne rfl e577) Tryz.underlying33 rfl (by kernel_rfl) rfl rfl) S568 (fun an579 n579 => ?_)
    refine h_take (i := 2) (fuel := 4) n579.ok rfl rfl rfl (by kernel_rfl) (by kernel_rfl) (by kernel_rfl) (fun _ _ _ _ _ h => h) (wn _ rfl) (fun x hx => o_ld n579.at_ (Tryz.isAgg31 _) ((Sx.bk hx kb19I516 (by simp <;> omega)).cell _ rfl)) S568 (fun an580 n580 => ?_)
    refine h_take (i := 3) (fuel := 3) n580.ok rfl rfl rfl (by kernel_rfl) (by kernel_rfl) (by kernel_rfl) (fun _ _ _ _ _ h => h) (wn _ rfl) (fun x hx => o_len n580.at_ Tryz.underlying31) S568 (fun an581 n581 => ?_)
    refine h_take (i := 4) (fuel := 2) n581.ok rfl rfl rfl (by kernel_rfl) (by kernel_rfl) (by kernel_rfl) (fun _ _ _ _ _ h => h) (wn _ rfl) (fun x hx => o_leI n581.at_ ev_const) S568 (fun an582 n582 => ?_)
    have e583 := n582.ne rfl (n581.ne rfl (n580.ne rfl (n579.ne rfl (n578.ne rfl (n545.ne rfl (n543.ne rfl (n542.ne rfl (n541.ne rfl (n537.ne rfl (n536.ne rfl (n535.ne rfl (n533.ne rfl (n532.ne rfl (n531.ne rfl (n526.ne rfl (n525.ne rfl (n524.ne rfl (n523.ne rfl (n522.ne rfl s2I516)))))))))))))))))))
    have e584 := n582.ne rfl (n581.ne rfl (n580.ne rfl (n579.ne rfl n578.at_)))
    refine h_stR (i := 5) (fuel := 1) (by kernel_rfl) rfl rfl (wn _ rfl) (o_stR e583 e584 B572 (by kernel_rfl) rfl (by simp [Value.oneCell'])) B572 S568 (by simp) (fun w585 u586 u586b S587 => ?_)
    have G588 : Gr w w585 := Below.upd G571 l13 u586
    have O591 := ow_upd O575 u586 l33
    have O592 := ow_upd O576 u586 l33
    refine h_take (i := 6) (fuel := 0) n582.ok rfl rfl rfl (by kernel_rfl) (by kernel_rfl) (by kernel_rfl) (fun _ _ _ _ _ h => h) (wn _ rfl) (fun x hx => o_as n582.at_) S587 (fun an593 n593 => ?_)
    refine wpAnyH_done (by kernel_rfl) ?_ _
    refine th_n (hK567 _ _ ?_)
    refine wp_ret ?_
    exact ret2 n593.ok rfl (⟨_, _, (n593.ne rfl e583), ld_row u586b Tryz.underlying33 rfl (by kernel_rfl)⟩) (n593.at_) ⟨_, by rw [leI_dec]; rfl, ⟨_, _, rfl, (by rw [hFV]; exact own_take_len (dsX X) (own_less O591 l35)), own_less O592 l35⟩, G588⟩
  ·have e594 := (n526.at_).trans (congrArg Value.bool (decide_eq_false c527))
   have hFV := form_vec (dsX X) q hqI516 hzI516 (.inl (by omega))
   refine sn n526.ok rfl (wgF rfl (yl 4 false rfl e594) rfl) rfl (fun an596 n596 => ?_)
   refine sn n596.ok rfl (wgF rfl (yl 4 false rfl (n596.ne rfl e594)) rfl) rfl (fun an597 n597 => ?_)
   refine sn n597.ok rfl (wgF rfl (yl 4 false rfl (n597.ne rfl (n596.ne rfl e594))) rfl) rfl (fun an598 n598 => ?_)
   have e599 := n598.ne rfl (n597.ne rfl (n596.ne rfl e594))
   refine sn n598.ok rfl (wgF rfl (yl 4 false rfl e599) rfl) rfl (fun an600 n600 => ?_)
   refine sn n600.ok rfl (wgF rfl (yl 4 false rfl (n600.ne rfl e599)) rfl) rfl (fun an601 n601 => ?_)
   refine sn n601.ok rfl (wgF rfl (yl 4 false rfl (n601.ne rfl (n600.ne rfl e599))) rfl) rfl (fun an602 n602 => ?_)
   have e603 := n602.ne rfl (n601.ne rfl (n600.ne rfl e599))
   refine sn n602.ok rfl (wgF rfl (yl 4 false rfl e603) rfl) rfl (fun an604 n604 => ?_)
   refine sn n604.ok rfl (wgF rfl (yl 4 false rfl (n604.ne rfl e603)) rfl) rfl (fun an605 n605 => ?_)
   refine sn n605.ok rfl (wgF rfl (yl 4 false rfl (n605.ne rfl (n604.ne rfl e603))) rfl) rfl (fun an606 n606 => ?_)
   have e607 := n606.ne rfl (n605.ne rfl (n604.ne rfl e603))
   refine sv n606.ok rfl (wn _ rfl) rfl (o_pkF e607 ev_const) (fun an608 n608 => ?_)
   refine wpList_nil ?_
   refine th_n (hK521 _ _ ?_)
   refine wp_cond_false (n608.at_) ?_
   refine wp_exit ?_
   refine th_x ?_
   refine th_x ?_
   refine ib_x ?_
   refine th_n (hK515 _ _ ?_)
   refine wp_seq_k (fun K609 hK609 => ?_)
   refine h_start [b9] 7 #[false, false, false, false, false, false, false] (by kernel_rfl) rfl rfl ?_
   have S610 := Sx.drew [b9] w519
   have g611 := (Gr.refl w519).drew
   generalize w519.drew = w612 at *
   have G613 := GI516.trans g611
   have B614 := kb9I516.gr g611
   have O617 := ow_gr oVI516 g611
   have O618 := ow_gr oMI516 g611
   have e619 := n608.ne rfl (n606.ne rfl (n605.ne rfl (n604.ne rfl (n602.ne rfl (n601.ne rfl (n600.ne rfl (n598.ne rfl (n597.ne rfl (n596.ne rfl (n526.ne rfl (n525.ne rfl (n524.ne rfl (n523.ne rfl (n522.ne rfl s4I516))))))))))))))
   refine h_take (i := 0) (fuel := 6) n608.ok rfl rfl rfl (by kernel_rfl) (by kernel_rfl) (by kernel_rfl) (fun _ _ _ _ _ h => h) (wn _ rfl) (fun x hx => o_ldR e619 (Sx.bk hx kb19I516 (by simp <;> omega)) Tryz.underlying33 rfl (by kernel_rfl)) S610 (fun an620 n620 => ?_)
   refine h_take (i := 1) (fuel := 5) n620.ok rfl rfl rfl (by kernel_rfl) (by kernel_rfl) (by kernel_rfl) (fun _ _ _ _ _ h => h) (wn _ rfl) (fun x hx => o_fa (z := 1) (n620.ne rfl e619) Tryz.underlying33 rfl (by kernel_rfl) rfl rfl) S610 (fun an621 n621 => ?_)
   refine h_take (i := 2) (fuel := 4) n621.ok rfl rfl rfl (by kernel_rfl) (by kernel_rfl) (by kernel_rfl) (fun _ _ _ _ _ h => h) (wn _ rfl) (fun x hx => o_ld n621.at_ (Tryz.isAgg31 _) ((Sx.bk hx kb19I516 (by simp <;> omega)).cell _ rfl)) S610 (fun an622 n622 => ?_)
   refine h_take (i := 3) (fuel := 3) n622.ok rfl rfl rfl (by kernel_rfl) (by kernel_rfl) (by kernel_rfl) (fun _ _ _ _ _ h => h) (wn _ rfl) (fun x hx => o_len n622.at_ Tryz.underlying31) S610 (fun an623 n623 => ?_)
   refine h_take (i := 4) (fuel := 2) n623.ok rfl rfl rfl (by kernel_rfl) (by kernel_rfl) (by kernel_rfl) (fun _ _ _ _ _ h => h) (wn _ rfl) (fun x hx => o_leI n623.at_ ev_const) S610 (fun an624 n624 => ?_)
   have e625 := n624.ne rfl (n623.ne rfl (n622.ne rfl (n621.ne rfl (n620.ne rfl (n608.ne rfl (n606.ne rfl (n605.ne rfl (n604.ne rfl (n602.ne rfl (n601.ne rfl (n600.ne rfl (n598.ne rfl (n597.ne rfl (n596.ne rfl (n526.ne rfl (n525.ne rfl (n524.ne rfl (n523.ne rfl (n522.ne rfl s2I516)))))))))))))))))))
   have e626 := n624.ne rfl (n623.ne rfl (n622.ne rfl (n621.ne rfl n620.at_)))
   refine h_stR (i := 5) (fuel := 1) (by kernel_rfl) rfl rfl (wn _ rfl) (o_stR e625 e626 B614 (by kernel_rfl) rfl (by simp [Value.oneCell'])) B614 S610 (by simp) (fun w627 u628 u628b S629 => ?_)
   have G630 : Gr w w627 := Below.upd G613 l13 u628
   have O633 := ow_upd O617 u628 l33
   have O634 := ow_upd O618 u628 l33
   refine h_take (i := 6) (fuel := 0) n624.ok rfl rfl rfl (by kernel_rfl) (by kernel_rfl) (by kernel_rfl) (fun _ _ _ _ _ h => h) (wn _ rfl) (fun x hx => o_as n624.at_) S629 (fun an635 n635 => ?_)
   refine wpAnyH_done (by kernel_rfl) ?_ _
   refine th_n (hK609 _ _ ?_)
   refine wp_ret ?_
   exact ret2 n635.ok rfl (⟨_, _, (n635.ne rfl e625), ld_row u628b Tryz.underlying33 rfl (by kernel_rfl)⟩) (n635.at_) ⟨_, by rw [leI_dec]; rfl, ⟨_, _, rfl, (by rw [hFV]; exact own_take_len (dsX X) (own_less O633 l35)), own_less O634 l35⟩, G630⟩
end Go.Proofs.YtbpkfkljeibjoaaGreat
/- The document's sets of dots: All, Size, Formed. -/
namespace Rm
open Go Go.RowKit Gx
theorem ne_nil_of_lt {α : Type} {l : List α} {i : Nat} (h : i < l.length) : l ≠ [] := fun e => by rw [e] at h; cases h
def RdI1 (w : World) (a : Option Addr) (V : List Int) : Prop := V ≠ [] → ∃ b off, a = some ⟨b, off, none⟩ ∧ b < w.heap.size ∧ ∀ i x, V[i]? = some x → w.cell? ⟨b, off + i * 1, none⟩ = some (.int .i64 x)
def RdDI (w : World) (a : Option Addr) (M : List (Int × Int)) : Prop := M ≠ [] → ∃ b off, a = some ⟨b, off, none⟩ ∧ b < w.heap.size ∧ ∀ i (p : Int × Int), M[i]? = some p → w.cell? ⟨b, off + i * 2, none⟩ = some (.int .i64 p.1) ∧ w.cell? ⟨b, off + i * 2 + 1, none⟩ = some (.int .i64 p.2)
def RdN1 (w : World) (a : Option Addr) (V : List Nat) : Prop := V ≠ [] → ∃ b off, a = some ⟨b, off, none⟩ ∧ b < w.heap.size ∧ ∀ (i : Nat) (x : Nat), V[i]? = some x → w.cell? ⟨b, off + i * 1, none⟩ = some (.int .i64 (x : Int))
def RdDN (w : World) (a : Option Addr) (M : List (Nat × Nat)) : Prop := M ≠ [] → ∃ b off, a = some ⟨b, off, none⟩ ∧ b < w.heap.size ∧ ∀ i (p : Nat × Nat), M[i]? = some p → w.cell? ⟨b, off + i * 2, none⟩ = some (.int .i64 (p.1 : Int)) ∧ w.cell? ⟨b, off + i * 2 + 1, none⟩ = some (.int .i64 (p.2 : Int))
theorem RdI1.nat {w : World} {a : Option Addr} {V : List Nat} (h : RdI1 w a (ints V)) : RdN1 w a V := fun hn => by
  obtain ⟨b, off, h1, h2, h3⟩ := h (by simpa [ints] using hn)
  exact ⟨b, off, h1, h2, fun i x hx => h3 i _ (ints_at hx)⟩
theorem RdDI.nat {w : World} {a : Option Addr} {M : List (Nat × Nat)} (h : RdDI w a (pairs M)) : RdDN w a M := fun hn => by
  obtain ⟨b, off, h1, h2, h3⟩ := h (by simpa [pairs] using hn)
  exact ⟨b, off, h1, h2, fun i p hx => h3 i ((p.1 : Int), (p.2 : Int)) (by simp [pairs, hx])⟩
theorem knr_form {w : World} {k : Value} {V : List Int} {M : List (Int × Int)} (h : KnR w k V M) : ∃ va vc ma mc, k = .agg #[.slice va V.length vc, .slice ma M.length mc] ∧ RdI1 w va V ∧ RdDI w ma M := by
  obtain ⟨vv, mv, rfl, ⟨va, vc, rfl, -, hv⟩, ⟨ma, mc, rfl, -, hm⟩, -⟩ := h
  refine ⟨va, vc, ma, mc, rfl, fun hn => ?_, hm⟩
  obtain ⟨b, off, e, hb, hx⟩ := hv hn
  exact ⟨b, off, e, hb, fun i x h => by rw [Nat.mul_one]; exact hx i x h⟩
theorem two_cells {w : World} {b k : Nat} {x y : Value} (h1 : w.cell? ⟨b, k, none⟩ = some x) (h2 : w.cell? ⟨b, k + 1, none⟩ = some y) : ∀ j v, ([x, y] : List Value)[j]? = some v → w.cell? ⟨b, k + j, none⟩ = some v := by
  intro j v hv
  match j, hv with
  | 0, hv => simp at hv; subst hv; exact h1
  | 1, hv => simp at hv; subst hv; exact h2
  | j + 2, hv => simp at hv
theorem cells_to {w w' : World} {b k : Nat} {cs : List Value} (h : ∀ j, w'.cell? ⟨b, j, none⟩ = w.cell? ⟨b, j, none⟩) (hc : ∀ j v, cs[j]? = some v → w.cell? ⟨b, k + j, none⟩ = some v) : ∀ j v, cs[j]? = some v → w'.cell? ⟨b, k + j, none⟩ = some v :=
  fun j v hv => (h _).trans (hc j v hv)
theorem cv_at {v : List Nat} {i x : Nat} (h : v[i]? = some x) : cv v i = x := by simp [cv, List.getD, h]
theorem withX_off (X : Nat → Nat) (i c : Nat) : (fun q => if q = 0 + i * 16 + (c / 64) * 1 then X (0 + i * 16 + (c / 64) * 1) ||| 2 ^ (c % 64) else X q) = withX X i c := by
  funext q
  unfold withX
  rw [Nat.zero_add, Nat.mul_one]
  by_cases e : q = i * 16 + c / 64
  · rw [if_pos e, if_pos e, e]
  · rw [if_neg e, if_neg e]
theorem all_step {X : Nat → Nat} {v : List Nat} {i c : Nat} (hc : c < 1024) (h1 : 1 ≤ c)
    (h : ∀ s q, s < 5 → q < 1024 → dsX X s q = decide (s < i ∧ 1 ≤ q ∧ q ≤ cv v s ∨ s = i ∧ 1 ≤ q ∧ q < c)) :
    ∀ s q, s < 5 → q < 1024 → dsX (withX X i c) s q = decide (s < i ∧ 1 ≤ q ∧ q ≤ cv v s ∨ s = i ∧ 1 ≤ q ∧ q < c + 1) := by
  intro s q hs hq
  rw [dsX_with X i c s q hc hq, h s q hs hq, Bool.eq_iff_iff]
  simp only [Bool.or_eq_true, decide_eq_true_eq]
  omega
theorem all_next {X : Nat → Nat} {v : List Nat} {i c x : Nat} (hx : cv v i = x) (hc : c = x + 1)
    (h : ∀ s q, s < 5 → q < 1024 → dsX X s q = decide (s < i ∧ 1 ≤ q ∧ q ≤ cv v s ∨ s = i ∧ 1 ≤ q ∧ q < c)) :
    ∀ s q, s < 5 → q < 1024 → dsX X s q = decide (s < i + 1 ∧ 1 ≤ q ∧ q ≤ cv v s) := by
  intro s q hs hq
  rw [h s q hs hq, Bool.eq_iff_iff]
  simp only [decide_eq_true_eq]
  by_cases e : s = i
  · subst e; omega
  · omega
theorem all_mid {X : Nat → Nat} {v : List Nat} {n : Nat} (hn : v.length ≤ n)
    (h : ∀ s q, s < 5 → q < 1024 → dsX X s q = decide (s < n ∧ 1 ≤ q ∧ q ≤ cv v s)) (m : List (Nat × Nat)) :
    ∀ s q, s < 5 → q < 1024 → dsX X s q = memB v (m.take 0) s q := by
  intro s q hs hq
  rw [h s q hs hq, Bool.eq_iff_iff, memB_iff]
  simp only [decide_eq_true_eq, List.take_zero, List.not_mem_nil, or_false]
  by_cases e : s < n
  · omega
  · have := cv_out (v := v) (s := s) (by omega)
    omega
theorem all_more {X : Nat → Nat} {v : List Nat} {m : List (Nat × Nat)} {k x y : Nat} (hm : m[k]? = some (x, y)) (hy : y < 1024)
    (h : ∀ s q, s < 5 → q < 1024 → dsX X s q = memB v (m.take k) s q) :
    ∀ s q, s < 5 → q < 1024 → dsX (withX X x y) s q = memB v (m.take (k + 1)) s q := by
  intro s q hs hq
  rw [dsX_with X x y s q hy hq, h s q hs hq, Bool.eq_iff_iff]
  simp only [Bool.or_eq_true, memB_iff, decide_eq_true_eq]
  rw [List.take_add_one, hm]
  simp only [Option.toList_some, List.mem_append, List.mem_singleton, Prod.mk.injEq]
  constructor
  · rintro ((q1 | q1) | q1)
    · exact .inl q1
    · exact .inr (.inl q1)
    · exact .inr (.inr q1)
  · rintro (q1 | q1 | q1)
    · exact .inl (.inl q1)
    · exact .inl (.inr q1)
    · exact .inr q1
theorem pow_lt64 (r : Nat) (h : r < 64) : 2 ^ r < 2 ^ 64 := Nat.pow_lt_pow_right (by omega) h
end Rm
namespace Gx
open Go Go.RowKit Rm
theorem Sx.cell {bs : List Nat} {w x : World} {b o : Nat} (h : Sx bs w x) (hn : b ∉ bs) : x.cell? ⟨b, o, none⟩ = w.cell? ⟨b, o, none⟩ := by
  unfold World.cell?
  rw [h b hn]
section
variable {P : Program} {ev : Operand → Value} {d : Option Tmp} {ty : TypeId} {p : String} {af : Array Edge} {g : Option (Nat × Bool)} {w : World}
theorem o_shlU {t t' : TypeId} {x y : Operand} {j : Nat} (hx : ev x = .int .u64 1) (hy : ev y = .int .i64 (j : Int)) (hj : j < 64) : (execOp ev (Oper.mk d (.binOp .shl t x y t') ty p af g)).run Go.Proofs.Tryz.prog w = .ok (.value (.int .u64 ((2 ^ j : Nat) : Int))) w := by
  have h := Go.Proofs.YtbpkfkljeibjoaaGreat.shl64 t j hj w
  have h3 : 2 ^ j < 2 ^ 64 := Nat.pow_lt_pow_right (by omega) hj
  have h2 : IntKind.u64.wrap ((2 : Int) ^ j) = (2 : Int) ^ j := by
    rw [show (2 : Int) ^ j = ((2 ^ j : Nat) : Int) by simp]
    exact IntWalk.u64_in _ ⟨Int.natCast_nonneg _, by omega⟩
  simp [execOp, hx, hy, eqGuard, h, h2, go_sem]
end
end Gx
namespace Go.Proofs.YtbpkfkljeibjoaaGreat
open Go.RowKit Rm Gx
set_option maxHeartbeats 8000000 in
set_option maxRecDepth 100000 in
theorem rall_k (va ma : Option Addr) (vc mc : Nat) (v : List Nat) (m : List (Nat × Nat)) (ok : OkV v m) (hl : m.length ≤ 60) (w : World) (hv : RdN1 w va v) (hm : RdDN w ma m) :
  Calls Tryz.prog 48 #[.agg #[.slice va v.length vc, .slice ma m.length mc]] w fun e w' => ∃ X, e = .returned (.agg (wArr X)) ∧ OkX X ∧ (∀ s q, s < 5 → q < 1024 → dsX X s q = memB v m s q) ∧ Gr w w' := by
 refine enter (N := 47) Tryz.func48 rfl rfl rfl (fun a0 ok0 h0 => ?_)
 have e0_0 : a0.eval (.tmp 0) = .agg #[.slice va v.length vc, .slice ma m.length mc] := h0 0 _ rfl
 clear h0
 have G0 := Gr.refl w
 refine wp_seq_k (fun K1 hK1 => ?_)
 refine wp_region_lit ?_
 refine sal (cs := #[.slice va v.length vc, .slice ma m.length mc]) ok0 rfl (wn _ rfl) rfl (o_box e0_0) (fun an2 w4 b3 W5 n2 => ?_)
 have G7 := G0.trans W5.gr
 refine sal (cs := wArr (fun _ => 0)) n2.ok rfl (wn _ rfl) rfl (o_al (z := .agg (wArr (fun _ => 0))) dots_zero) (fun an8 w10 b9 W11 n8 => ?_)
 have l13 : w.heap.size ≤ b9 := by rw [W11.eq]; exact G7.size
 have G14 := G7.trans W11.gr
 have B15 := W5.bk.gr W11.gr
 refine wpList_nil ?_
 refine th_n (hK1 _ _ ?_)
 refine wp_seq_k (fun K16 hK16 => ?_)
 refine wp_region_lit ?_
 refine sal (cs := wArr (fun _ => 0)) n8.ok rfl (wn _ rfl) rfl (o_al (z := .agg (wArr (fun _ => 0))) dots_zero) (fun an17 w19 b18 W20 n17 => ?_)
 have l21 : b3 < b18 := by rw [W20.eq]; exact B15.lt
 have l22 : b9 < b18 := by rw [W20.eq]; exact W11.bk.lt
 have l23 : w.heap.size ≤ b18 := by rw [W20.eq]; exact G14.size
 have G24 := G14.trans W20.gr
 have B25 := B15.gr W20.gr
 have B26 := W11.bk.gr W20.gr
 refine wpList_nil ?_
 refine th_n (hK16 _ _ ?_)
 refine wp_seq_k (fun K27 hK27 => ?_)
 refine wp_seq_k (fun K28 hK28 => ?_)
 refine wp_region_lit ?_
 refine sv n17.ok rfl (wn _ rfl) rfl (o_fa (z := 1) (n17.ne rfl (n8.ne rfl n2.at_)) Tryz.underlying33 rfl (by kernel_rfl) rfl rfl) (fun an29 n29 => ?_)
 refine sv n29.ok rfl (wn _ rfl) rfl (o_ld n29.at_ (Tryz.isAgg30 _) (B25.cell _ rfl)) (fun an30 n30 => ?_)
 refine sv n30.ok rfl (wn _ rfl) rfl (o_len n30.at_ Tryz.underlying30) (fun an31 n31 => ?_)
 refine sv n31.ok rfl (wn _ rfl) rfl (o_mv ev_const) (fun an32 n32 => ?_)
 refine wpList_nil ?_
 refine th_n (hK28 _ _ ?_)
 refine wp_block ?_
 have e34 := n32.ne rfl (n31.ne rfl (n30.ne rfl (n29.ne rfl (n17.ne rfl (n8.ne rfl n2.at_)))))
 have e35 := n32.ne rfl (n31.ne rfl (n30.ne rfl (n29.ne rfl (n17.ne rfl n8.at_))))
 have e36 := n32.ne rfl (n31.ne rfl (n30.ne rfl (n29.ne rfl n17.at_)))
 refine lp (fun (nL : Nat) (aL : Act) (wL : World) => ∃ i : Nat, ∃ X : Nat → Nat, nL = v.length - i ∧ Ok 47 aL ∧ Gr w wL ∧ (aL.eval (.tmp 1) = .pointer (some ⟨b3, 0, none⟩)) ∧ (aL.eval (.tmp 2) = .pointer (some ⟨b9, 0, none⟩)) ∧ (aL.eval (.tmp 3) = .pointer (some ⟨b18, 0, none⟩)) ∧ (aL.eval (.tmp 10) = .slice va v.length vc) ∧ (aL.eval (.tmp 11) = .int .i64 ((v.length : Nat) : Int)) ∧ (aL.eval (.tmp 12) = .int .i64 (i : Int)) ∧ (Bk wL b3 #[.slice va v.length vc, .slice ma m.length mc] 33) ∧ (Bk wL b9 (wArr (fun _ => 0)) 49) ∧ (Bk wL b18 (wArr X) 49) ∧ (i ≤ v.length) ∧ (OkX X) ∧ (∀ s q, s < 5 → q < 1024 → dsX X s q = decide (s < i ∧ 1 ≤ q ∧ q ≤ cv v s))) _ ⟨0, (fun _ => 0), rfl, n32.ok, G24, e34, e35, e36, (n32.ne rfl (n31.ne rfl n30.at_)), (n32.ne rfl n31.at_), n32.at_, B25, B26, W20.bk, by omega, OkX.zero, fun s q h1 h2 => by rw [dsX_zero]; simp⟩ ?_
 rintro m37 aI33 w39 ⟨i, X, hmI33, okI33, GI33, s1I33, s2I33, s3I33, s10I33, s11I33, s12I33, kb3I33, kb9I33, kb18I33, hiI33, hXI33, hDI33⟩ KI33 hKI33
 refine wp_seq_k (fun K40 hK40 => ?_)
 refine wp_region_lit ?_
 refine sv okI33 rfl (wn _ rfl) rfl (o_ltI s12I33 s11I33) (fun an41 n41 => ?_)
 refine wpList_nil ?_
 refine th_n (hK40 _ _ ?_)
 refine wp_seq_k (fun K42 hK42 => ?_)
 by_cases c43 : (i : Int) < ((v.length : Nat) : Int)
 ·refine wp_cond_true ((n41.at_).trans (congrArg Value.bool (decide_eq_true c43))) ?_
  refine wp_skip ?_
  refine th_n (hK42 _ _ ?_)
  refine wp_seq_k (fun K44 hK44 => ?_)
  refine wp_block ?_
  refine wp_seq_k (fun K45 hK45 => ?_)
  refine wp_region_lit ?_
  refine sv n41.ok rfl (wn _ rfl) rfl (o_mv (n41.ne rfl s12I33)) (fun an46 n46 => ?_)
  have h47l : i < List.length v := by omega
  obtain ⟨bh47, fh47, h47a, h47b, h47c⟩ := hv (ne_nil_of_lt h47l)
  obtain ⟨xh47, h47x⟩ : ∃ x, v[i]? = some x := ⟨_, List.getElem?_eq_getElem h47l⟩
  have hleh47 : xh47 ≤ 1000 := ok.le _ (List.mem_of_getElem? h47x)
  have hcv := cv_at h47x
  have hlen5 := ok.len
  refine sv n46.ok rfl (wn _ rfl) rfl (o_iaV (i := i) (s := 1) h47a (n46.ne rfl (n41.ne rfl s10I33)) (n46.ne rfl (n41.ne rfl s12I33)) Tryz.underlying30 (by kernel_rfl) h47l) (fun an48 n48 => ?_)
  refine sv n48.ok rfl (wn _ rfl) rfl (o_ld n48.at_ (Tryz.isAgg3 _) ((Below.cell GI33 h47b).trans (h47c _ _ h47x))) (fun an49 n49 => ?_)
  refine sv n49.ok rfl (wn _ rfl) rfl (o_as (n49.ne rfl (n48.ne rfl n46.at_))) (fun an50 n50 => ?_)
  refine sv n50.ok rfl (wn _ rfl) rfl (o_as (n50.ne rfl n49.at_)) (fun an51 n51 => ?_)
  refine wpList_nil ?_
  refine th_n (hK45 _ _ ?_)
  refine wp_seq_k (fun K52 hK52 => ?_)
  refine wp_region_lit ?_
  refine sv n51.ok rfl (wn _ rfl) rfl (o_as ev_const) (fun an53 n53 => ?_)
  refine wpList_nil ?_
  refine th_n (hK52 _ _ ?_)
  refine wp_block ?_
  have e55 := n53.ne rfl (n51.ne rfl (n50.ne rfl (n49.ne rfl (n48.ne rfl (n46.ne rfl (n41.ne rfl s1I33))))))
  have e56 := n53.ne rfl (n51.ne rfl (n50.ne rfl (n49.ne rfl (n48.ne rfl (n46.ne rfl (n41.ne rfl s2I33))))))
  have e57 := n53.ne rfl (n51.ne rfl (n50.ne rfl (n49.ne rfl (n48.ne rfl (n46.ne rfl (n41.ne rfl s3I33))))))
  have e58 := n53.ne rfl (n51.ne rfl (n50.ne rfl (n49.ne rfl (n48.ne rfl (n46.ne rfl (n41.ne rfl s10I33))))))
  have e59 := n53.ne rfl (n51.ne rfl (n50.ne rfl (n49.ne rfl (n48.ne rfl (n46.ne rfl (n41.ne rfl s11I33))))))
  have e60 := n53.ne rfl (n51.ne rfl (n50.ne rfl (n49.ne rfl (n48.ne rfl (n46.ne rfl (n41.ne rfl s12I33))))))
  refine lp (fun (nL : Nat) (aL : Act) (wL : World) => ∃ c : Nat, ∃ X : Nat → Nat, nL = xh47 + 1 - c ∧ Ok 47 aL ∧ Gr w wL ∧ (aL.eval (.tmp 1) = .pointer (some ⟨b3, 0, none⟩)) ∧ (aL.eval (.tmp 2) = .pointer (some ⟨b9, 0, none⟩)) ∧ (aL.eval (.tmp 3) = .pointer (some ⟨b18, 0, none⟩)) ∧ (aL.eval (.tmp 4) = .int .i64 (i : Int)) ∧ (aL.eval (.tmp 5) = .int .i64 (xh47 : Int)) ∧ (aL.eval (.tmp 6) = .int .i64 (c : Int)) ∧ (aL.eval (.tmp 10) = .slice va v.length vc) ∧ (aL.eval (.tmp 11) = .int .i64 ((v.length : Nat) : Int)) ∧ (aL.eval (.tmp 12) = .int .i64 (i : Int)) ∧ (Bk wL b3 #[.slice va v.length vc, .slice ma m.length mc] 33) ∧ (Bk wL b9 (wArr (fun _ => 0)) 49) ∧ (Bk wL b18 (wArr X) 49) ∧ (1 ≤ c ∧ c ≤ xh47 + 1) ∧ (OkX X) ∧ (∀ s q, s < 5 → q < 1024 → dsX X s q = decide (s < i ∧ 1 ≤ q ∧ q ≤ cv v s ∨ s = i ∧ 1 ≤ q ∧ q < c))) _ ⟨1, X, rfl, n53.ok, GI33, e55, e56, e57, (n53.ne rfl (n51.ne rfl n50.at_)), (n53.ne rfl n51.at_), n53.at_, e58, e59, e60, kb3I33, kb9I33, kb18I33, by omega, hXI33, fun s q h1 h2 => by rw [hDI33 s q h1 h2, Bool.eq_iff_iff]; simp only [decide_eq_true_eq]; omega⟩ ?_
  rintro m61 aI54 w63 ⟨c, X, hmI54, okI54, GI54, s1I54, s2I54, s3I54, s4I54, s5I54, s6I54, s10I54, s11I54, s12I54, kb3I54, kb9I54, kb18I54, hcI54, hXI54, hDI54⟩ KI54 hKI54
  refine wp_seq_k (fun K64 hK64 => ?_)
  refine wp_seq_k (fun K65 hK65 => ?_)
  refine wp_region_lit ?_
  refine sv okI54 rfl (wn _ rfl) rfl (o_mv s6I54) (fun an66 n66 => ?_)
  refine sv n66.ok rfl (wn _ rfl) rfl (o_mv (n66.ne rfl s5I54)) (fun an67 n67 => ?_)
  refine sv n67.ok rfl (wn _ rfl) rfl (o_leI (n67.ne rfl n66.at_) n67.at_) (fun an68 n68 => ?_)
  refine wpList_nil ?_
  refine th_n (hK65 _ _ ?_)
  by_cases c69 : (c : Int) ≤ (xh47 : Int)
  ·refine wp_cond_true ((n68.at_).trans (congrArg Value.bool (decide_eq_true c69))) ?_
   refine wp_skip ?_
   refine th_n (hK64 _ _ ?_)
   refine wp_seq_k (fun K70 hK70 => ?_)
   refine wp_block ?_
   refine reg_start (N := 47) (m := 12) (by kernel_rfl) (fun R710 => ?_)
   have e72 := n68.ne rfl (n67.ne rfl (n66.ne rfl s4I54))
   have R711 := R710.snoc (n' := 1) rfl (fun vJ _ => vJ = .int .i64 (i : Int)) rfl (fun _ _ _ _ h => h) (fun aS wS pS => by
     exact Does.val (wn _ rfl) (o_mv ((pS.old 4 rfl).trans e72)) (Gr.refl _) rfl rfl)
   have e73 := n68.ne rfl (n67.ne rfl (n66.ne rfl s6I54))
   have R712 := R711.snoc (n' := 2) rfl (fun vJ _ => vJ = .int .i64 (c : Int)) rfl (fun _ _ _ _ h => h) (fun aS wS pS => by
     exact Does.val (wn _ rfl) (o_mv ((pS.old 6 rfl).trans e73)) (Gr.refl _) rfl rfl)
   have R713 := R712.snoc (n' := 3) rfl (fun vJ _ => vJ = .int .i64 (((c) / 64 : Nat) : Int)) rfl (fun _ _ _ _ h => h) (fun aS wS pS => by
     have eR71_1 : aS.eval (.tmp 23) = .int .i64 (c : Int) := pS.pre 1 rfl
     exact Does.val (wn _ rfl) (o_quo (i := c) (j := 64) (eR71_1) ev_const (by omega) (by omega) rfl) (Gr.refl _) rfl rfl)
   have e74 := n68.ne rfl (n67.ne rfl (n66.ne rfl s3I54))
   have R714 := R713.snoc (n' := 4) rfl (fun vJ _ => vJ = .pointer (some ⟨b18, 0 + i * 16, none⟩)) rfl (fun _ _ _ _ h => h) (fun aS wS pS => by
     have eR71_0 : aS.eval (.tmp 22) = .int .i64 (i : Int) := pS.pre 0 rfl
     exact Does.val (wn _ rfl) (o_iaA (i := i) (s := 16) ((pS.old 3 rfl).trans e74) (eR71_0) Tryz.underlying49 (by kernel_rfl) (by omega)) (Gr.refl _) rfl rfl)
   have R715 := R714.snoc (n' := 5) rfl (fun vJ _ => vJ = .pointer (some ⟨b18, 0 + i * 16 + ((c) / 64) * 1, none⟩)) rfl (fun _ _ _ _ h => h) (fun aS wS pS => by
     have eR71_2 : aS.eval (.tmp 24) = .int .i64 (((c) / 64 : Nat) : Int) := pS.pre 2 rfl
     have eR71_3 : aS.eval (.tmp 25) = .pointer (some ⟨b18, 0 + i * 16, none⟩) := pS.pre 3 rfl
     exact Does.val (wn _ rfl) (o_iaA (i := (c) / 64) (s := 1) (eR71_3) (eR71_2) Tryz.underlying47 (by kernel_rfl) (by omega)) (Gr.refl _) rfl rfl)
   have R716 := R715.snoc (n' := 6) rfl (fun vJ _ => vJ = .int .u64 ((X (0 + i * 16 + ((c) / 64) * 1) : Nat) : Int)) rfl (fun _ _ _ _ h => h) (fun aS wS pS => by
     have eR71_4 : aS.eval (.tmp 26) = .pointer (some ⟨b18, 0 + i * 16 + ((c) / 64) * 1, none⟩) := pS.pre 4 rfl
     exact Does.val (wn _ rfl) (o_ld (eR71_4) (Tryz.isAgg46 _) ((Bk.gr kb18I54 (gr_drew pS.gr)).cell _ (wArr_at X (0 + i * 16 + ((c) / 64) * 1) (by omega)))) (Gr.refl _) rfl rfl)
   have R717 := R716.snoc (n' := 7) rfl (fun vJ _ => vJ = .int .i64 (c : Int)) rfl (fun _ _ _ _ h => h) (fun aS wS pS => by
     exact Does.val (wn _ rfl) (o_mv ((pS.old 6 rfl).trans e73)) (Gr.refl _) rfl rfl)
   have R718 := R717.snoc (n' := 8) rfl (fun vJ _ => vJ = .int .i64 (((c) % 64 : Nat) : Int)) rfl (fun _ _ _ _ h => h) (fun aS wS pS => by
     have eR71_6 : aS.eval (.tmp 28) = .int .i64 (c : Int) := pS.pre 6 rfl
     exact Does.val (wn _ rfl) (o_rem (i := c) (j := 64) (eR71_6) ev_const (by omega) rfl) (Gr.refl _) rfl rfl)
   have R719 := R718.snoc (n' := 9) rfl (fun vJ _ => vJ = .int .u64 ((2 ^ ((c) % 64) : Nat) : Int)) rfl (fun _ _ _ _ h => h) (fun aS wS pS => by
     have eR71_7 : aS.eval (.tmp 29) = .int .i64 (((c) % 64 : Nat) : Int) := pS.pre 7 rfl
     exact Does.val (wn _ rfl) (o_shlU (j := (c) % 64) ev_const (eR71_7) (by omega)) (Gr.refl _) rfl rfl)
   have R7110 := R719.snoc (n' := 10) rfl (fun vJ _ => vJ = .int .u64 ((X (0 + i * 16 + ((c) / 64) * 1) ||| 2 ^ ((c) % 64) : Nat) : Int)) rfl (fun _ _ _ _ h => h) (fun aS wS pS => by
     have eR71_5 : aS.eval (.tmp 27) = .int .u64 ((X (0 + i * 16 + ((c) / 64) * 1) : Nat) : Int) := pS.pre 5 rfl
     have eR71_8 : aS.eval (.tmp 30) = .int .u64 ((2 ^ ((c) % 64) : Nat) : Int) := pS.pre 8 rfl
     exact Does.val (wn _ rfl) (o_orU (eR71_5) (eR71_8) (hXI54 _) (pow_lt64 _ (by omega))) (Gr.refl _) rfl rfl)
   have R7111 := R7110.snoc (n' := 11) rfl (fun vJ _ => vJ = .pointer (some ⟨b18, 0 + i * 16, none⟩)) rfl (fun _ _ _ _ h => h) (fun aS wS pS => by
     have eR71_0 : aS.eval (.tmp 22) = .int .i64 (i : Int) := pS.pre 0 rfl
     exact Does.val (wn _ rfl) (o_iaA (i := i) (s := 16) ((pS.old 3 rfl).trans e74) (eR71_0) Tryz.underlying49 (by kernel_rfl) (by omega)) (Gr.refl _) rfl rfl)
   have R7112 := R7111.snoc (n' := 12) rfl (fun vJ _ => vJ = .pointer (some ⟨b18, 0 + i * 16 + ((c) / 64) * 1, none⟩)) rfl (fun _ _ _ _ h => h) (fun aS wS pS => by
     have eR71_2 : aS.eval (.tmp 24) = .int .i64 (((c) / 64 : Nat) : Int) := pS.pre 2 rfl
     have eR71_10 : aS.eval (.tmp 32) = .pointer (some ⟨b18, 0 + i * 16, none⟩) := pS.pre 10 rfl
     exact Does.val (wn _ rfl) (o_iaA (i := (c) / 64) (s := 1) (eR71_10) (eR71_2) Tryz.underlying47 (by kernel_rfl) (by omega)) (Gr.refl _) rfl rfl)
   refine R7112.run (k := 1) (L := #[true, true, true, true, true, true, true, true, true, true, true, true, false]) (by kernel_rfl) (by kernel_rfl) (by kernel_rfl) n68.ok (by kernel_rfl) (by kernel_rfl) (fun ap76 w77 p76 => ?_)
   have g78 := gr_drew p76.gr
   have G79 := GI54.trans g78
   have B80 := kb3I54.gr g78
   have B81 := kb9I54.gr g78
   have B82 := kb18I54.gr g78
   have ep76_11 : ap76.eval (.tmp 33) = .pointer (some ⟨b18, 0 + i * 16 + ((c) / 64) * 1, none⟩) := p76.js 11 rfl
   have ep76_9 : ap76.eval (.tmp 31) = .int .u64 ((X (0 + i * 16 + ((c) / 64) * 1) ||| 2 ^ ((c) % 64) : Nat) : Int) := p76.js 9 rfl
   refine t_stC (i := 12) (by kernel_rfl) rfl rfl (wn _ rfl) (o_st ep76_11 ep76_9 B82 (wArr_at X (0 + i * 16 + ((c) / 64) * 1) (by omega)) (by kernel_rfl) rfl) B82 (fun w83 u84 u84b => ?_)
   have G85 : Gr w w83 := Below.upd G79 l23 u84
   have B86 := B80.upd u84 (Nat.ne_of_lt l21)
   have B87 := B81.upd u84 (Nat.ne_of_lt l22)
   have B88 : Bk w83 b18 (wArr (fun q => if q = 0 + i * 16 + ((c) / 64) * 1 then X (0 + i * 16 + ((c) / 64) * 1) ||| 2 ^ ((c) % 64) else X q)) 49 := (by rw [← wArr_set]; exact u84b)
   refine wpAny_done (by kernel_rfl) ?_ _
   refine ib_n ?_
   refine th_n (hK70 _ _ ?_)
   refine wp_region_lit ?_
   refine sv p76.ok rfl (wn _ rfl) rfl (o_mv ((p76.old 6 rfl).trans e73)) (fun an89 n89 => ?_)
   refine sv n89.ok rfl (wn _ rfl) rfl (o_add (r := ((c + 1 : Nat) : Int)) n89.at_ ev_const (by omega) (by omega)) (fun an90 n90 => ?_)
   refine sv n90.ok rfl (wn _ rfl) rfl (o_as n90.at_) (fun an91 n91 => ?_)
   refine wpList_nil ?_
   have e92 := n91.ne rfl (n90.ne rfl (n89.ne rfl ((p76.old 1 rfl).trans (n68.ne rfl (n67.ne rfl (n66.ne rfl s1I54))))))
   have e93 := n91.ne rfl (n90.ne rfl (n89.ne rfl ((p76.old 2 rfl).trans (n68.ne rfl (n67.ne rfl (n66.ne rfl s2I54))))))
   have e94 := n91.ne rfl (n90.ne rfl (n89.ne rfl ((p76.old 3 rfl).trans e74)))
   have e95 := n91.ne rfl (n90.ne rfl (n89.ne rfl ((p76.old 4 rfl).trans e72)))
   have e96 := n91.ne rfl (n90.ne rfl (n89.ne rfl ((p76.old 5 rfl).trans (n68.ne rfl (n67.ne rfl (n66.ne rfl s5I54))))))
   have e97 := n91.ne rfl (n90.ne rfl (n89.ne rfl ((p76.old 10 rfl).trans (n68.ne rfl (n67.ne rfl (n66.ne rfl s10I54))))))
   have e98 := n91.ne rfl (n90.ne rfl (n89.ne rfl ((p76.old 11 rfl).trans (n68.ne rfl (n67.ne rfl (n66.ne rfl s11I54))))))
   have e99 := n91.ne rfl (n90.ne rfl (n89.ne rfl ((p76.old 12 rfl).trans (n68.ne rfl (n67.ne rfl (n66.ne rfl s12I54))))))
   exact th_n (hKI54 _ _ _ (by omega) ⟨c + 1, withX X i c, rfl, n91.ok, G85, e92, e93, e94, e95, e96, n91.at_, e97, e98, e99, B86, B87, (by rw [← withX_off X i c]; exact B88), by omega, hXI54.with i c, all_step (by omega) (by omega) hDI54⟩)
  ·refine wp_cond_false ((n68.at_).trans (congrArg Value.bool (decide_eq_false c69))) ?_
   refine wp_exit ?_
   refine th_x ?_
   refine th_x ?_
   refine ib_x ?_
   refine ib_n ?_
   refine th_n (hK44 _ _ ?_)
   refine wp_region_lit ?_
   have e100 := n68.ne rfl (n67.ne rfl (n66.ne rfl s12I54))
   refine sv n68.ok rfl (wn _ rfl) rfl (o_add (r := ((i + 1 : Nat) : Int)) e100 ev_const (by omega) (by omega)) (fun an101 n101 => ?_)
   refine sv n101.ok rfl (wn _ rfl) rfl (o_mv n101.at_) (fun an102 n102 => ?_)
   refine wpList_nil ?_
   have e103 := n102.ne rfl (n101.ne rfl (n68.ne rfl (n67.ne rfl (n66.ne rfl s1I54))))
   have e104 := n102.ne rfl (n101.ne rfl (n68.ne rfl (n67.ne rfl (n66.ne rfl s2I54))))
   have e105 := n102.ne rfl (n101.ne rfl (n68.ne rfl (n67.ne rfl (n66.ne rfl s3I54))))
   have e106 := n102.ne rfl (n101.ne rfl (n68.ne rfl (n67.ne rfl (n66.ne rfl s10I54))))
   have e107 := n102.ne rfl (n101.ne rfl (n68.ne rfl (n67.ne rfl (n66.ne rfl s11I54))))
   exact th_n (hKI33 _ _ _ (by omega) ⟨i + 1, X, rfl, n102.ok, GI54, e103, e104, e105, e106, e107, n102.at_, kb3I54, kb9I54, kb18I54, by omega, hXI54, all_next hcv (by omega) hDI54⟩)
 ·refine wp_cond_false ((n41.at_).trans (congrArg Value.bool (decide_eq_false c43))) ?_
  refine wp_exit ?_
  refine th_x ?_
  refine th_x ?_
  refine ib_x ?_
  refine th_n (hK27 _ _ ?_)
  refine wp_seq_k (fun K108 hK108 => ?_)
  refine wp_seq_k (fun K109 hK109 => ?_)
  refine wp_region_lit ?_
  refine sv n41.ok rfl (wn _ rfl) rfl (o_fa (z := 1) (n41.ne rfl s1I33) Tryz.underlying33 rfl (by kernel_rfl) rfl rfl) (fun an110 n110 => ?_)
  refine sv n110.ok rfl (wn _ rfl) rfl (o_ld n110.at_ (Tryz.isAgg31 _) (kb3I33.cell _ rfl)) (fun an111 n111 => ?_)
  refine sv n111.ok rfl (wn _ rfl) rfl (o_len n111.at_ Tryz.underlying31) (fun an112 n112 => ?_)
  refine sv n112.ok rfl (wn _ rfl) rfl (o_mv ev_const) (fun an113 n113 => ?_)
  refine wpList_nil ?_
  refine th_n (hK109 _ _ ?_)
  refine wp_block ?_
  have e115 := n113.ne rfl (n112.ne rfl (n111.ne rfl (n110.ne rfl (n41.ne rfl s2I33))))
  have e116 := n113.ne rfl (n112.ne rfl (n111.ne rfl (n110.ne rfl (n41.ne rfl s3I33))))
  refine lp (fun (nL : Nat) (aL : Act) (wL : World) => ∃ k : Nat, ∃ X : Nat → Nat, nL = m.length - k ∧ Ok 47 aL ∧ Gr w wL ∧ (aL.eval (.tmp 2) = .pointer (some ⟨b9, 0, none⟩)) ∧ (aL.eval (.tmp 3) = .pointer (some ⟨b18, 0, none⟩)) ∧ (aL.eval (.tmp 36) = .slice ma m.length mc) ∧ (aL.eval (.tmp 37) = .int .i64 ((m.length : Nat) : Int)) ∧ (aL.eval (.tmp 38) = .int .i64 (k : Int)) ∧ (Bk wL b9 (wArr (fun _ => 0)) 49) ∧ (Bk wL b18 (wArr X) 49) ∧ (k ≤ m.length) ∧ (OkX X) ∧ (∀ s q, s < 5 → q < 1024 → dsX X s q = memB v (m.take k) s q)) _ ⟨0, X, rfl, n113.ok, GI33, e115, e116, (n113.ne rfl (n112.ne rfl n111.at_)), (n113.ne rfl n112.at_), n113.at_, kb9I33, kb18I33, by omega, hXI33, all_mid (by omega) hDI33 m⟩ ?_
  rintro m117 aI114 w119 ⟨k, X, hmI114, okI114, GI114, s2I114, s3I114, s36I114, s37I114, s38I114, kb9I114, kb18I114, hkI114, hXI114, hDI114⟩ KI114 hKI114
  refine wp_seq_k (fun K120 hK120 => ?_)
  refine wp_region_lit ?_
  refine sv okI114 rfl (wn _ rfl) rfl (o_ltI s38I114 s37I114) (fun an121 n121 => ?_)
  refine wpList_nil ?_
  refine th_n (hK120 _ _ ?_)
  refine wp_seq_k (fun K122 hK122 => ?_)
  by_cases c123 : (k : Int) < ((m.length : Nat) : Int)
  ·refine wp_cond_true ((n121.at_).trans (congrArg Value.bool (decide_eq_true c123))) ?_
   refine wp_skip ?_
   refine th_n (hK122 _ _ ?_)
   refine wp_seq_k (fun K124 hK124 => ?_)
   refine wp_block ?_
   refine wp_seq_k (fun K125 hK125 => ?_)
   refine wp_region_lit ?_
   have h126l : k < List.length m := by omega
   obtain ⟨bh126, fh126, h126a, h126b, h126c⟩ := hm (ne_nil_of_lt h126l)
   obtain ⟨⟨xh126, yh126⟩, h126x⟩ : ∃ x, m[k]? = some x := ⟨_, List.getElem?_eq_getElem h126l⟩
   have hdh126 := ok.dots _ (List.mem_of_getElem? h126x)
   simp only at hdh126
   refine sv n121.ok rfl (wn _ rfl) rfl (o_iaV (i := k) (s := 2) h126a (n121.ne rfl s36I114) (n121.ne rfl s38I114) Tryz.underlying31 (by kernel_rfl) h126l) (fun an127 n127 => ?_)
   refine sv n127.ok rfl (wn _ rfl) rfl (o_ldA (k := fh126 + k * 2) n127.at_ (cells_to (fun j => Below.cell GI114 h126b) (two_cells (h126c _ _ h126x).1 (h126c _ _ h126x).2)) Tryz.underlying55 rfl (by kernel_rfl)) (fun an128 n128 => ?_)
   refine sal (cs := #[.int .i64 0, .int .i64 0]) n128.ok rfl (wn _ rfl) rfl (o_al (z := .agg #[.int .i64 0, .int .i64 0]) (by kernel_rfl)) (fun an129 w131 b130 W132 n129 => ?_)
   have l133 : b9 < b130 := by rw [W132.eq]; exact kb9I114.lt
   have l134 : b18 < b130 := by rw [W132.eq]; exact kb18I114.lt
   have l135 : w.heap.size ≤ b130 := by rw [W132.eq]; exact GI114.size
   have G136 := GI114.trans W132.gr
   have B137 := kb9I114.gr W132.gr
   have B138 := kb18I114.gr W132.gr
   refine ssR rfl (wn _ rfl) (o_stR n129.at_ (n129.ne rfl n128.at_) W132.bk (by kernel_rfl) rfl (by simp [Value.oneCell'])) W132.bk (fun w139 u140 u140b => ?_)
   have G141 : Gr w w139 := Below.upd G136 l135 u140
   have B142 := B137.upd u140 (Nat.ne_of_lt l133)
   have B143 := B138.upd u140 (Nat.ne_of_lt l134)
   refine wpList_nil ?_
   refine th_n (hK125 _ _ ?_)
   refine wp_region_lit ?_
   have e144 := n129.ne rfl (n128.ne rfl (n127.ne rfl (n121.ne rfl s3I114)))
   refine sv n129.ok rfl (wn _ rfl) rfl (o_ldR e144 B143 Tryz.underlying49 rfl (dots_sz X)) (fun an145 n145 => ?_)
   refine sv n145.ok rfl (wn _ rfl) rfl (o_ldR (n145.ne rfl n129.at_) u140b Tryz.underlying55 rfl (by kernel_rfl)) (fun an146 n146 => ?_)
   refine sc n146.ok rfl (wn _ rfl) rfl (o_f2 Tryz.func108 rfl rfl rfl (n146.ne rfl n145.at_) n146.at_) (rwith_any X xh126 yh126 w139 hXI114 (by omega) (by omega)) ?_
   rintro _ w148 ⟨rfl, g149⟩
   refine ⟨_, rfl, fun an147 n147 => ?_⟩
   have G150 := G141.trans g149
   have B151 := B142.gr g149
   have B152 := B143.gr g149
   have e154 := n147.ne rfl (n146.ne rfl (n145.ne rfl e144))
   refine ssR rfl (wn _ rfl) (o_stR e154 n147.at_ B152 (dots_sz (withX X xh126 yh126)) (by rw [wArr_size, wArr_size]) (wArr_one (withX X xh126 yh126))) B152 (fun w155 u156 u156b => ?_)
   have G157 : Gr w w155 := Below.upd G150 l23 u156
   have B158 := B151.upd u156 (Nat.ne_of_lt l22)
   refine wpList_nil ?_
   refine ib_n ?_
   refine th_n (hK124 _ _ ?_)
   refine wp_region_lit ?_
   have e160 := n147.ne rfl (n146.ne rfl (n145.ne rfl (n129.ne rfl (n128.ne rfl (n127.ne rfl (n121.ne rfl s38I114))))))
   refine sv n147.ok rfl (wn _ rfl) rfl (o_add (r := ((k + 1 : Nat) : Int)) e160 ev_const (by omega) (by omega)) (fun an161 n161 => ?_)
   refine sv n161.ok rfl (wn _ rfl) rfl (o_mv n161.at_) (fun an162 n162 => ?_)
   refine wpList_nil ?_
   have e163 := n162.ne rfl (n161.ne rfl (n147.ne rfl (n146.ne rfl (n145.ne rfl (n129.ne rfl (n128.ne rfl (n127.ne rfl (n121.ne rfl s2I114))))))))
   have e164 := n162.ne rfl (n161.ne rfl (n147.ne rfl (n146.ne rfl (n145.ne rfl (n129.ne rfl (n128.ne rfl (n127.ne rfl (n121.ne rfl s36I114))))))))
   have e165 := n162.ne rfl (n161.ne rfl (n147.ne rfl (n146.ne rfl (n145.ne rfl (n129.ne rfl (n128.ne rfl (n127.ne rfl (n121.ne rfl s37I114))))))))
   exact th_n (hKI114 _ _ _ (by omega) ⟨k + 1, withX X xh126 yh126, rfl, n162.ok, G157, e163, (n162.ne rfl (n161.ne rfl e154)), e164, e165, n162.at_, B158, u156b, by omega, hXI114.with _ _, all_more h126x (by omega) hDI114⟩)
  ·refine wp_cond_false ((n121.at_).trans (congrArg Value.bool (decide_eq_false c123))) ?_
   refine wp_exit ?_
   refine th_x ?_
   refine th_x ?_
   refine ib_x ?_
   refine th_n (hK108 _ _ ?_)
   refine wp_seq_k (fun K166 hK166 => ?_)
   refine wp_region_lit ?_
   refine sv n121.ok rfl (wn _ rfl) rfl (o_ldR (n121.ne rfl s3I114) kb18I114 Tryz.underlying49 rfl (dots_sz X)) (fun an167 n167 => ?_)
   refine ssR rfl (wn _ rfl) (o_stR (n167.ne rfl (n121.ne rfl s2I114)) n167.at_ kb9I114 (dots_sz X) (by rw [wArr_size, wArr_size]) (wArr_one X)) kb9I114 (fun w168 u169 u169b => ?_)
   have G170 : Gr w w168 := Below.upd GI114 l13 u169
   refine wpList_nil ?_
   refine th_n (hK166 _ _ ?_)
   refine wp_ret ?_
   exact ret1 n167.ok rfl (⟨_, _, (n167.ne rfl (n121.ne rfl s2I114)), ld_row u169b Tryz.underlying49 rfl (dots_sz X)⟩) ⟨X, rfl, hXI114, fun s q h1 h2 => by rw [hDI114 s q h1 h2, List.take_of_length_le (by omega)], G170⟩
theorem rall_any (k : Value) (v : List Nat) (m : List (Nat × Nat)) (w : World) (hk : KnR w k (ints v) (pairs m)) (ok : OkV v m) (hl : m.length ≤ 60) :
    Calls Tryz.prog 48 #[k] w fun e w' => ∃ X, e = .returned (.agg (wArr X)) ∧ OkX X ∧ (∀ s q, s < 5 → q < 1024 → dsX X s q = memB v m s q) ∧ Gr w w' := by
  obtain ⟨va, vc, ma, mc, rfl, hv, hm⟩ := knr_form hk
  rw [ints_len, pairs_len]
  exact rall_k va ma vc mc v m ok hl w hv.nat hm.nat
end Go.Proofs.YtbpkfkljeibjoaaGreat
/- slices.IndexFunc, ContainsFunc, DeleteFunc at parts. -/
namespace Go.Proofs.YtbpkfkljeibjoaaGreat
open Go.RowKit Rm Gx
set_option maxHeartbeats 8000000 in
set_option maxRecDepth 100000 in
theorem indexP (K : List PtX) (va : Option Addr) (vc : Nat) (f : FuncId) (caps : List Value) (p : PtX → Bool) (hf : FnOk Tryz.prog f) (hl : K.length ≤ 100000) (w : World) (hv : RdA encP 3 w va K) (hc : ∀ x ∈ K, ∀ w1, Gr w w1 → Calls Tryz.prog f (.agg #[.slice x.fa x.fn x.fc, .slice x.va x.vn x.vc, .slice x.ma x.mn x.mc] :: caps).toArray w1 fun e w2 => e = .returned (.bool (p x)) ∧ Gr w1 w2) :
  Calls Tryz.prog 140 #[.slice va K.length vc, .func (.func f) #[] caps.toArray] w fun e w' => e = .returned (.int .i64 (ixF p K 0)) ∧ Gr w w' := by
 refine enter (N := 19) Tryz.func140 rfl rfl rfl (fun a0 ok0 h0 => ?_)
 have e0_0 : a0.eval (.tmp 0) = .slice va K.length vc := h0 0 _ rfl
 have e0_1 : a0.eval (.tmp 1) = .func (.func f) #[] caps.toArray := h0 1 _ rfl
 clear h0
 have G0 := Gr.refl w
 refine wp_seq_k (fun K1 hK1 => ?_)
 refine wp_region_lit ?_
 refine sv ok0 rfl (wn _ rfl) rfl (o_as ev_const) (fun an2 n2 => ?_)
 refine wpList_nil ?_
 refine th_n (hK1 _ _ ?_)
 refine wp_seq_k (fun K3 hK3 => ?_)
 refine wp_seq_k (fun K4 hK4 => ?_)
 refine wp_region_lit ?_
 refine sv n2.ok rfl (wn _ rfl) rfl (o_mv (n2.ne rfl e0_0)) (fun an5 n5 => ?_)
 refine sv n5.ok rfl (wn _ rfl) rfl (o_len n5.at_ Tryz.underlying22) (fun an6 n6 => ?_)
 refine sv n6.ok rfl (wn _ rfl) rfl (o_mv ev_const) (fun an7 n7 => ?_)
 refine wpList_nil ?_
 refine th_n (hK4 _ _ ?_)
 refine wp_block ?_
 have e9 := n7.ne rfl (n6.ne rfl (n5.ne rfl (n2.ne rfl e0_0)))
 have e10 := n7.ne rfl (n6.ne rfl (n5.ne rfl (n2.ne rfl e0_1)))
 have e11 := n7.ne rfl (n6.ne rfl (n5.ne rfl n2.at_))
 refine lp (fun (nL : Nat) (aL : Act) (wL : World) => ∃ i : Nat, nL = K.length - i ∧ Ok 19 aL ∧ Gr w wL ∧ (aL.eval (.tmp 0) = .slice va K.length vc) ∧ (aL.eval (.tmp 1) = .func (.func f) #[] caps.toArray) ∧ (aL.eval (.tmp 4) = .int .i64 0) ∧ (aL.eval (.tmp 7) = .int .i64 ((K.length : Nat) : Int)) ∧ (aL.eval (.tmp 8) = .int .i64 (i : Int)) ∧ (i ≤ K.length) ∧ (∀ k y, k < i → K[k]? = some y → p y = false)) _ ⟨0, rfl, n7.ok, G0, e9, e10, e11, (n7.ne rfl n6.at_), n7.at_, by omega, fun k y hk => by omega⟩ ?_
 rintro m12 aI8 w14 ⟨i, hmI8, okI8, GI8, s0I8, s1I8, s4I8, s7I8, s8I8, hiI8, hbI8⟩ KI8 hKI8
 refine wp_seq_k (fun K15 hK15 => ?_)
 refine wp_region_lit ?_
 refine sv okI8 rfl (wn _ rfl) rfl (o_ltI s8I8 s7I8) (fun an16 n16 => ?_)
 refine wpList_nil ?_
 refine th_n (hK15 _ _ ?_)
 refine wp_seq_k (fun K17 hK17 => ?_)
 by_cases c18 : (i : Int) < ((K.length : Nat) : Int)
 ·refine wp_cond_true ((n16.at_).trans (congrArg Value.bool (decide_eq_true c18))) ?_
  refine wp_skip ?_
  refine th_n (hK17 _ _ ?_)
  refine wp_seq_k (fun K19 hK19 => ?_)
  refine wp_block ?_
  refine wp_seq_k (fun K20 hK20 => ?_)
  refine wp_region_lit ?_
  refine sv n16.ok rfl (wn _ rfl) rfl (o_mv (n16.ne rfl s8I8)) (fun an21 n21 => ?_)
  refine sv n21.ok rfl (wn _ rfl) rfl (o_as n21.at_) (fun an22 n22 => ?_)
  refine wpList_nil ?_
  refine th_n (hK20 _ _ ?_)
  refine wp_seq_k (fun K23 hK23 => ?_)
  refine wp_region_lit ?_
  have e24 := n22.ne rfl (n21.ne rfl (n16.ne rfl s1I8))
  refine sv n22.ok rfl (wn _ rfl) rfl (o_mv e24) (fun an25 n25 => ?_)
  have e26 := n25.ne rfl (n22.ne rfl (n21.ne rfl (n16.ne rfl s0I8)))
  refine sv n25.ok rfl (wn _ rfl) rfl (o_mv e26) (fun an27 n27 => ?_)
  refine sv n27.ok rfl (wn _ rfl) rfl (o_mv (n27.ne rfl (n25.ne rfl n22.at_))) (fun an28 n28 => ?_)
  have h29l : i < List.length K := by omega
  obtain ⟨bh29, fh29, h29a, h29b, h29c⟩ := hv (ne_nil_of_lt h29l)
  obtain ⟨xh29, h29x⟩ : ∃ x, (K)[i]? = some x := ⟨_, List.getElem?_eq_getElem h29l⟩
  refine sv n28.ok rfl (wn _ rfl) rfl (o_iaV (i := i) (s := 3) h29a (n28.ne rfl n27.at_) n28.at_ Tryz.underlying22 (by kernel_rfl) h29l) (fun an30 n30 => ?_)
  refine sv n30.ok rfl (wn _ rfl) rfl (o_ldA (k := fh29 + i * 3) n30.at_ (cs := [.slice xh29.fa xh29.fn xh29.fc, .slice xh29.va xh29.vn xh29.vc, .slice xh29.ma xh29.mn xh29.mc]) (fun j v hv => (Below.cell GI8 h29b).trans (h29c _ _ h29x j v hv)) Tryz.underlying35 rfl (by kernel_rfl)) (fun an31 n31 => ?_)
  have e32 := n31.ne rfl (n30.ne rfl (n28.ne rfl (n27.ne rfl n25.at_)))
  refine sc n31.ok rfl (wn _ rfl) rfl (o_fv1 (caps := caps) hf e32 n31.at_) (hc _ (List.mem_of_getElem? h29x) w14 GI8) ?_
  rintro _ w34 ⟨rfl, g35⟩
  refine ⟨_, rfl, fun an33 n33 => ?_⟩
  have G36 := GI8.trans g35
  refine wpList_nil ?_
  refine th_n (hK23 _ _ ?_)
  cases c37 : (p xh29)
  ·refine wp_cond_false ((n33.at_).trans (congrArg Value.bool (c37))) ?_
   refine wp_skip ?_
   refine ib_n ?_
   refine th_n (hK19 _ _ ?_)
   refine wp_region_lit ?_
   have e38 := n33.ne rfl (n31.ne rfl (n30.ne rfl (n28.ne rfl (n27.ne rfl (n25.ne rfl (n22.ne rfl (n21.ne rfl (n16.ne rfl s8I8))))))))
   refine sv n33.ok rfl (wn _ rfl) rfl (o_add (r := ((i + 1 : Nat) : Int)) e38 ev_const (by omega) (by omega)) (fun an39 n39 => ?_)
   refine sv n39.ok rfl (wn _ rfl) rfl (o_mv n39.at_) (fun an40 n40 => ?_)
   refine wpList_nil ?_
   have e41 := n40.ne rfl (n39.ne rfl (n33.ne rfl (n31.ne rfl (n30.ne rfl (n28.ne rfl (n27.ne rfl e26))))))
   have e42 := n40.ne rfl (n39.ne rfl (n33.ne rfl (n31.ne rfl (n30.ne rfl (n28.ne rfl (n27.ne rfl (n25.ne rfl e24)))))))
   have e43 := n40.ne rfl (n39.ne rfl (n33.ne rfl (n31.ne rfl (n30.ne rfl (n28.ne rfl (n27.ne rfl (n25.ne rfl (n22.ne rfl (n21.ne rfl (n16.ne rfl s4I8))))))))))
   have e44 := n40.ne rfl (n39.ne rfl (n33.ne rfl (n31.ne rfl (n30.ne rfl (n28.ne rfl (n27.ne rfl (n25.ne rfl (n22.ne rfl (n21.ne rfl (n16.ne rfl s7I8))))))))))
   exact th_n (hKI8 _ _ _ (by omega) ⟨i + 1, rfl, n40.ok, G36, e41, e42, e43, e44, n40.at_, by omega, fun k y hk hy => by
     rcases Nat.lt_or_ge k i with q | q
     ·exact hbI8 k y q hy
     ·obtain rfl : k = i := by omega
      rw [h29x] at hy
      cases hy
      exact c37⟩)
  ·refine wp_cond_true ((n33.at_).trans (congrArg Value.bool (c37))) ?_
   refine wp_seq_k (fun K45 hK45 => ?_)
   refine wp_region_lit ?_
   have e46 := n33.ne rfl (n31.ne rfl (n30.ne rfl (n28.ne rfl (n27.ne rfl (n25.ne rfl n22.at_)))))
   refine sv n33.ok rfl (wn _ rfl) rfl (o_mv e46) (fun an47 n47 => ?_)
   refine sv n47.ok rfl (wn _ rfl) rfl (o_as n47.at_) (fun an48 n48 => ?_)
   refine wpList_nil ?_
   refine th_n (hK45 _ _ ?_)
   refine wp_ret ?_
   refine ib_r ?_
   refine th_r ?_
   refine th_r ?_
   refine ib_r ?_
   refine th_r ?_
   exact ret1 n48.ok rfl (n48.at_) ⟨congrArg (fun n => Ending.returned (Value.int .i64 n)) ((ixF_some K 0 i _ h29x c37 hbI8).trans (congrArg Int.ofNat (Nat.zero_add _))).symm, G36⟩
 ·refine wp_cond_false ((n16.at_).trans (congrArg Value.bool (decide_eq_false c18))) ?_
  refine wp_exit ?_
  refine th_x ?_
  refine th_x ?_
  refine ib_x ?_
  refine th_n (hK3 _ _ ?_)
  refine wp_seq_k (fun K49 hK49 => ?_)
  refine wp_region_lit ?_
  refine sv n16.ok rfl (wn _ rfl) rfl (o_as ev_const) (fun an50 n50 => ?_)
  refine wpList_nil ?_
  refine th_n (hK49 _ _ ?_)
  refine wp_ret ?_
  exact ret1 n50.ok rfl (n50.at_) ⟨congrArg (fun n => Ending.returned (Value.int .i64 n)) (ixF_none K 0 (fun x hx => by
    obtain ⟨k, hk⟩ := List.getElem?_of_mem hx
    have hlt := (List.getElem?_eq_some_iff.1 hk).1
    exact hbI8 k x (by omega) hk)).symm, GI8⟩
set_option maxHeartbeats 8000000 in
set_option maxRecDepth 100000 in
theorem containsP (K : List PtX) (va : Option Addr) (vc : Nat) (f : FuncId) (caps : List Value) (p : PtX → Bool) (hf : FnOk Tryz.prog f) (hl : K.length ≤ 100000) (w : World) (hv : RdA encP 3 w va K) (hc : ∀ x ∈ K, ∀ w1, Gr w w1 → Calls Tryz.prog f (.agg #[.slice x.fa x.fn x.fc, .slice x.va x.vn x.vc, .slice x.ma x.mn x.mc] :: caps).toArray w1 fun e w2 => e = .returned (.bool (p x)) ∧ Gr w1 w2) :
  Calls Tryz.prog 101 #[.slice va K.length vc, .func (.func f) #[] caps.toArray] w fun e w' => e = .returned (.bool (K.any p)) ∧ Gr w w' := by
 refine enter (N := 9) Tryz.func101 rfl rfl rfl (fun a0 ok0 h0 => ?_)
 have e0_0 : a0.eval (.tmp 0) = .slice va K.length vc := h0 0 _ rfl
 have e0_1 : a0.eval (.tmp 1) = .func (.func f) #[] caps.toArray := h0 1 _ rfl
 clear h0
 have G0 := Gr.refl w
 refine wp_seq_k (fun K1 hK1 => ?_)
 refine wp_region_lit ?_
 refine sv ok0 rfl (wn _ rfl) rfl (o_as ev_const) (fun an2 n2 => ?_)
 refine wpList_nil ?_
 refine th_n (hK1 _ _ ?_)
 refine wp_seq_k (fun K3 hK3 => ?_)
 refine wp_region_lit ?_
 refine sv n2.ok rfl (wn _ rfl) rfl (o_mv (n2.ne rfl e0_0)) (fun an4 n4 => ?_)
 refine sv n4.ok rfl (wn _ rfl) rfl (o_mv (n4.ne rfl (n2.ne rfl e0_1))) (fun an5 n5 => ?_)
 refine sc n5.ok rfl (wn _ rfl) rfl (o_f2 Tryz.func140 rfl rfl rfl (n5.ne rfl n4.at_) n5.at_) (indexP K va vc f caps p hf hl w (hv.gr G0) (fun x hx w1 g1 => hc x hx w1 (G0.trans g1))) ?_
 rintro _ w7 ⟨rfl, g8⟩
 refine ⟨_, rfl, fun an6 n6 => ?_⟩
 have G9 := G0.trans g8
 refine sv n6.ok rfl (wn _ rfl) rfl (o_geI n6.at_ ev_const) (fun an10 n10 => ?_)
 refine sv n10.ok rfl (wn _ rfl) rfl (o_as n10.at_) (fun an11 n11 => ?_)
 refine wpList_nil ?_
 refine th_n (hK3 _ _ ?_)
 refine wp_ret ?_
 exact ret1 n11.ok rfl (n11.at_) ⟨congrArg (fun b => Ending.returned (Value.bool b)) (ixF_any p K 0), G9⟩
theorem zero_parts (m : Nat) : ∀ u ∈ (Builtin.zeroCells (Value.agg #[.slice none 0 0, .slice none 0 0, .slice none 0 0]).cells m).toList, u.oneCell' = true := by
  intro u hu
  simp only [Builtin.zeroCells, Value.cells, Array.toList_map, List.mem_map] at hu
  obtain ⟨i, -, rfl⟩ := hu
  show ((#[.slice none 0 0, .slice none 0 0, .slice none 0 0] : Array Value)[i % 3]!).oneCell' = true
  have h : i % 3 = 0 ∨ i % 3 = 1 ∨ i % 3 = 2 := by omega
  rcases h with h | h | h <;> rw [h] <;> rfl
theorem indexP0 (f : FuncId) (caps : List Value) (p : PtX → Bool) (hf : FnOk Tryz.prog f) (w : World) : Calls Tryz.prog 140 #[.slice none 0 0, .func (.func f) #[] caps.toArray] w fun e w' => e = .returned (.int .i64 (-1)) ∧ Gr w w' :=
  indexP [] none 0 f caps p hf (by simp) w (fun h => absurd rfl h) (fun x hx => by cases hx)
set_option maxHeartbeats 8000000 in
set_option maxRecDepth 100000 in
theorem deleteP0 (f : FuncId) (caps : List Value) (p : PtX → Bool) (hf : FnOk Tryz.prog f) (w : World) :
  Calls Tryz.prog 102 #[.slice none 0 0, .func (.func f) #[] caps.toArray] w fun e w' => e = .returned (.slice none 0 0) ∧ Gr w w' := by
 refine enter (N := 42) Tryz.func102 rfl rfl rfl (fun a0 ok0 h0 => ?_)
 have e0_0 : a0.eval (.tmp 0) = .slice none 0 0 := h0 0 _ rfl
 have e0_1 : a0.eval (.tmp 1) = .func (.func f) #[] caps.toArray := h0 1 _ rfl
 clear h0
 have G0 := Gr.refl w
 refine wp_seq_k (fun K1 hK1 => ?_)
 refine wp_region_lit ?_
 refine sv ok0 rfl (wn _ rfl) rfl (o_as ev_const) (fun an2 n2 => ?_)
 refine wpList_nil ?_
 refine th_n (hK1 _ _ ?_)
 refine wp_seq_k (fun K3 hK3 => ?_)
 refine wp_region_lit ?_
 refine sv n2.ok rfl (wn _ rfl) rfl (o_mv (n2.ne rfl e0_0)) (fun an4 n4 => ?_)
 refine sv n4.ok rfl (wn _ rfl) rfl (o_mv (n4.ne rfl (n2.ne rfl e0_1))) (fun an5 n5 => ?_)
 refine sc n5.ok rfl (wn _ rfl) rfl (o_f2 Tryz.func140 rfl rfl rfl (n5.ne rfl n4.at_) n5.at_) (indexP0 f caps p hf w) ?_
 rintro _ w7 ⟨rfl, g8⟩
 refine ⟨_, rfl, fun an6 n6 => ?_⟩
 have G9 := G0.trans g8
 refine sv n6.ok rfl (wn _ rfl) rfl (o_as n6.at_) (fun an10 n10 => ?_)
 refine wpList_nil ?_
 refine th_n (hK3 _ _ ?_)
 refine wp_seq_k (fun K11 hK11 => ?_)
 refine wp_seq_k (fun K12 hK12 => ?_)
 refine wp_region_lit ?_
 refine sv n10.ok rfl (wn _ rfl) rfl (o_mv n10.at_) (fun an13 n13 => ?_)
 refine sv n13.ok rfl (wn _ rfl) rfl (o_eq (b := true) n13.at_ ev_const (by decide)) (fun an14 n14 => ?_)
 refine wpList_nil ?_
 refine th_n (hK12 _ _ ?_)
 refine wp_cond_true (n14.at_) ?_
 refine wp_seq_k (fun K15 hK15 => ?_)
 refine wp_region_lit ?_
 have e16 := n14.ne rfl (n13.ne rfl (n10.ne rfl (n6.ne rfl (n5.ne rfl (n4.ne rfl (n2.ne rfl e0_0))))))
 refine sv n14.ok rfl (wn _ rfl) rfl (o_mv e16) (fun an17 n17 => ?_)
 refine sv n17.ok rfl (wn _ rfl) rfl (o_as n17.at_) (fun an18 n18 => ?_)
 refine wpList_nil ?_
 refine th_n (hK15 _ _ ?_)
 refine wp_ret ?_
 refine th_r ?_
 exact ret1 n18.ok rfl (n18.at_) ⟨rfl, G9⟩
set_option maxHeartbeats 8000000 in
set_option maxRecDepth 100000 in
theorem deleteP1 (K : List PtX) (g vc base : Nat) (f : FuncId) (caps : List Value) (p : PtX → Bool) (hf : FnOk Tryz.prog f) (hl : K.length ≤ 100000) (hcap : K.length ≤ vc) (w0 w : World) (hG : Gr w0 w) (hB : w0.heap.size ≤ base) (hz : base ≤ w.heap.size) (ho : w.ownsRow base 35 3 (.slice (some ⟨g, 0, none⟩) K.length vc) K.length (flatE encP K)) (hc : ∀ x ∈ K, ∀ w1, w.grownBy w1 (some g) → Calls Tryz.prog f (.agg #[.slice x.fa x.fn x.fc, .slice x.va x.vn x.vc, .slice x.ma x.mn x.mc] :: caps).toArray w1 fun e w2 => e = .returned (.bool (p x)) ∧ Gr w1 w2) :
  Calls Tryz.prog 102 #[.slice (some ⟨g, 0, none⟩) K.length vc, .func (.func f) #[] caps.toArray] w fun e w' => ∃ n, e = .returned (.slice (some ⟨g, 0, none⟩) n vc) ∧ n = (K.filter (fun x => !p x)).length ∧ w'.ownsRow base 35 3 (.slice (some ⟨g, 0, none⟩) n vc) n (flatE encP (K.filter (fun x => !p x))) ∧ w.grownBy w' (some g) := by
 refine enter (N := 42) Tryz.func102 rfl rfl rfl (fun a0 ok0 h0 => ?_)
 have e0_0 : a0.eval (.tmp 0) = .slice (some ⟨g, 0, none⟩) K.length vc := h0 0 _ rfl
 have e0_1 : a0.eval (.tmp 1) = .func (.func f) #[] caps.toArray := h0 1 _ rfl
 clear h0
 refine wp_seq_k (fun K1 hK1 => ?_)
 refine wp_region_lit ?_
 refine sv ok0 rfl (wn _ rfl) rfl (o_as ev_const) (fun an2 n2 => ?_)
 refine wpList_nil ?_
 refine th_n (hK1 _ _ ?_)
 refine wp_seq_k (fun K3 hK3 => ?_)
 refine wp_region_lit ?_
 refine sv n2.ok rfl (wn _ rfl) rfl (o_mv (n2.ne rfl e0_0)) (fun an4 n4 => ?_)
 refine sv n4.ok rfl (wn _ rfl) rfl (o_mv (n4.ne rfl (n2.ne rfl e0_1))) (fun an5 n5 => ?_)
 refine sc n5.ok rfl (wn _ rfl) rfl (o_f2 Tryz.func140 rfl rfl rfl (n5.ne rfl n4.at_) n5.at_) (indexP K (some ⟨g, 0, none⟩) vc f caps p hf hl w (RdA.own encP_ok ho rfl) (fun x hx w1 g1 => hc x hx w1 (gb_gr (gb_self : w.grownBy w (some g)) g1))) ?_
 rintro _ w7 ⟨rfl, g8⟩
 refine ⟨_, rfl, fun an6 n6 => ?_⟩
 have G9 := hG.trans g8
 have z10 := Nat.le_trans hz g8.size
 have O11 := ow_gr ho g8
 have F12 := gb_gr (gb_self : w.grownBy w (some g)) g8
 refine sv n6.ok rfl (wn _ rfl) rfl (o_as n6.at_) (fun an13 n13 => ?_)
 refine wpList_nil ?_
 refine th_n (hK3 _ _ ?_)
 refine wp_seq_k (fun K14 hK14 => ?_)
 refine wp_seq_k (fun K15 hK15 => ?_)
 refine wp_region_lit ?_
 refine sv n13.ok rfl (wn _ rfl) rfl (o_mv n13.at_) (fun an16 n16 => ?_)
 refine sv n16.ok rfl (wn _ rfl) rfl (o_eqI n16.at_ ev_const) (fun an17 n17 => ?_)
 refine wpList_nil ?_
 refine th_n (hK15 _ _ ?_)
 by_cases c18 : (ixF p K 0) = (-1)
 ·refine wp_cond_true ((n17.at_).trans (congrArg Value.bool (decide_eq_true c18))) ?_
  refine wp_seq_k (fun K19 hK19 => ?_)
  refine wp_region_lit ?_
  have e20 := n17.ne rfl (n16.ne rfl (n13.ne rfl (n6.ne rfl (n5.ne rfl (n4.ne rfl (n2.ne rfl e0_0))))))
  refine sv n17.ok rfl (wn _ rfl) rfl (o_mv e20) (fun an21 n21 => ?_)
  refine sv n21.ok rfl (wn _ rfl) rfl (o_as n21.at_) (fun an22 n22 => ?_)
  refine wpList_nil ?_
  refine th_n (hK19 _ _ ?_)
  refine wp_ret ?_
  refine th_r ?_
  exact ret1 n22.ok rfl (n22.at_) ⟨List.length K, rfl, by rw [ixF_neg c18], by rw [ixF_neg c18]; exact O11, F12⟩
 ·refine wp_cond_false ((n17.at_).trans (congrArg Value.bool (decide_eq_false c18))) ?_
  obtain ⟨j0, x0, hj1, hj2, hj3, hj4⟩ := (ixF_ge p K 0).resolve_left c18
  have hj0 : ixF p K 0 = (j0 : Int) := by rw [hj1]; omega
  have hjl := (List.getElem?_eq_some_iff.1 hj2).1
  have e23 := ((n17.ne rfl (n16.ne rfl n13.at_))).trans (congrArg (Value.int .i64) hj0)
  refine wp_skip ?_
  refine th_n (hK14 _ _ ?_)
  refine wp_seq_k (fun K24 hK24 => ?_)
  refine wp_seq_k (fun K25 hK25 => ?_)
  refine wp_region_lit ?_
  refine sv n17.ok rfl (wn _ rfl) rfl (o_mv e23) (fun an26 n26 => ?_)
  refine sv n26.ok rfl (wn _ rfl) rfl (o_add (r := ((j0 + 1 : Nat) : Int)) n26.at_ ev_const (by omega) (by omega)) (fun an27 n27 => ?_)
  refine sv n27.ok rfl (wn _ rfl) rfl (o_as n27.at_) (fun an28 n28 => ?_)
  refine wpList_nil ?_
  refine th_n (hK25 _ _ ?_)
  refine wp_block ?_
  have e30 := n28.ne rfl (n27.ne rfl (n26.ne rfl (n17.ne rfl (n16.ne rfl (n13.ne rfl (n6.ne rfl (n5.ne rfl (n4.ne rfl (n2.ne rfl e0_0)))))))))
  have e31 := n28.ne rfl (n27.ne rfl (n26.ne rfl (n17.ne rfl (n16.ne rfl (n13.ne rfl (n6.ne rfl (n5.ne rfl (n4.ne rfl (n2.ne rfl e0_1)))))))))
  have e32 := n28.ne rfl (n27.ne rfl (n26.ne rfl (n17.ne rfl (n16.ne rfl (n13.ne rfl (n6.ne rfl (n5.ne rfl (n4.ne rfl n2.at_))))))))
  have e33 := n28.ne rfl (n27.ne rfl (n26.ne rfl e23))
  refine lp (fun (nL : Nat) (aL : Act) (wL : World) => ∃ i : Nat, ∃ j : Nat, ∃ M : List PtX, nL = K.length - j ∧ Ok 42 aL ∧ Gr w0 wL ∧ (aL.eval (.tmp 0) = .slice (some ⟨g, 0, none⟩) K.length vc) ∧ (aL.eval (.tmp 1) = .func (.func f) #[] caps.toArray) ∧ (aL.eval (.tmp 4) = .slice none 0 0) ∧ (aL.eval (.tmp 5) = .int .i64 (i : Int)) ∧ (aL.eval (.tmp 6) = .int .i64 (j : Int)) ∧ (w.grownBy wL (some g)) ∧ (World.ownsRow wL base 35 3 (.slice (some ⟨g, 0, none⟩) K.length vc) (K.length) ((flatE encP M))) ∧ (base ≤ wL.heap.size) ∧ (DelAt p K M i j)) _ ⟨j0, j0 + 1, K, rfl, n28.ok, G9, e30, e31, e32, e33, n28.at_, F12, O11, z10, DelAt.start hj2 hj3 (fun k y hk hy => hj4 k y hk hy)⟩ ?_
  rintro m34 aI29 w36 ⟨i, j, M, hmI29, okI29, GI29, s0I29, s1I29, s4I29, s5I29, s6I29, fgbI29, okrI29, zbaseI29, hdI29⟩ KI29 hKI29
  have hMlI29 := hdI29.len
  have hijI29 := hdI29.lt
  have hjKI29 := hdI29.jle
  refine wp_seq_k (fun K37 hK37 => ?_)
  refine wp_seq_k (fun K38 hK38 => ?_)
  refine wp_region_lit ?_
  refine sv okI29 rfl (wn _ rfl) rfl (o_mv s6I29) (fun an39 n39 => ?_)
  refine sv n39.ok rfl (wn _ rfl) rfl (o_mv (n39.ne rfl s0I29)) (fun an40 n40 => ?_)
  refine sv n40.ok rfl (wn _ rfl) rfl (o_len n40.at_ Tryz.underlying22) (fun an41 n41 => ?_)
  refine sv n41.ok rfl (wn _ rfl) rfl (o_ltI (n41.ne rfl (n40.ne rfl n39.at_)) n41.at_) (fun an42 n42 => ?_)
  refine wpList_nil ?_
  refine th_n (hK38 _ _ ?_)
  by_cases c43 : (j : Int) < ((K.length : Nat) : Int)
  ·refine wp_cond_true ((n42.at_).trans (congrArg Value.bool (decide_eq_true c43))) ?_
   refine wp_skip ?_
   refine th_n (hK37 _ _ ?_)
   refine wp_seq_k (fun K44 hK44 => ?_)
   refine wp_block ?_
   refine wp_seq_k (fun K45 hK45 => ?_)
   refine wp_region_lit ?_
   have e46 := n42.ne rfl (n41.ne rfl (n40.ne rfl (n39.ne rfl s0I29)))
   refine sv n42.ok rfl (wn _ rfl) rfl (o_mv e46) (fun an47 n47 => ?_)
   have e48 := n47.ne rfl (n42.ne rfl (n41.ne rfl (n40.ne rfl (n39.ne rfl s6I29))))
   refine sv n47.ok rfl (wn _ rfl) rfl (o_mv e48) (fun an49 n49 => ?_)
   refine sv n49.ok rfl (wn _ rfl) rfl (o_ia (i := j) (s := 3) (n49.ne rfl n47.at_) n49.at_ Tryz.underlying22 (by kernel_rfl) (by omega)) (fun an50 n50 => ?_)
   have h51l : j < List.length M := by omega
   obtain ⟨xh51, h51x⟩ : ∃ x, M[j]? = some x := ⟨_, List.getElem?_eq_getElem h51l⟩
   refine sv n50.ok rfl (wn _ rfl) rfl (o_ldA (k := 0 + j * 3) n50.at_ (cs := [.slice xh51.fa xh51.fn xh51.fc, .slice xh51.va xh51.vn xh51.vc, .slice xh51.ma xh51.mn xh51.mc]) (ow_at encP_ok okrI29 hdI29.len.symm h51x) Tryz.underlying35 rfl (by kernel_rfl)) (fun an52 n52 => ?_)
   refine sal (cs := #[.slice none 0 0, .slice none 0 0, .slice none 0 0]) n52.ok rfl (wn _ rfl) rfl (o_al (z := .agg #[.slice none 0 0, .slice none 0 0, .slice none 0 0]) (by kernel_rfl)) (fun an53 w55 b54 W56 n53 => ?_)
   have l57 : w0.heap.size ≤ b54 := by rw [W56.eq]; exact GI29.size
   have l58 : ∀ k, Value.ownBlock (.slice (some ⟨g, 0, none⟩) K.length vc) = some k → k < b54 := fun k e => by rw [W56.eq]; exact ow_in okrI29 k e
   have l59 : w.heap.size ≤ b54 := by rw [W56.eq]; exact fgbI29.size
   have G60 := GI29.trans W56.gr
   have z61 := Nat.le_trans zbaseI29 W56.gr.size
   have O62 := ow_gr okrI29 W56.gr
   have F63 := gb_gr fgbI29 W56.gr
   refine ssR rfl (wn _ rfl) (o_stR n53.at_ (n53.ne rfl n52.at_) W56.bk (by kernel_rfl) rfl (by simp [Value.oneCell'])) W56.bk (fun w64 u65 u65b => ?_)
   have G66 : Gr w0 w64 := Below.upd G60 l57 u65
   have z67 : base ≤ w64.heap.size := by rw [u65.size]; exact z61
   have O68 := ow_upd_ne O62 u65 l58
   have F69 := gb_upd F63 u65 l59
   refine wpList_nil ?_
   refine th_n (hK45 _ _ ?_)
   refine wp_seq_k (fun K70 hK70 => ?_)
   refine wp_region_lit ?_
   have e71 := n53.ne rfl (n52.ne rfl (n50.ne rfl (n49.ne rfl (n47.ne rfl (n42.ne rfl (n41.ne rfl (n40.ne rfl (n39.ne rfl s1I29))))))))
   refine sv n53.ok rfl (wn _ rfl) rfl (o_mv e71) (fun an72 n72 => ?_)
   refine sv n72.ok rfl (wn _ rfl) rfl (o_ldR (n72.ne rfl n53.at_) u65b Tryz.underlying35 rfl (by kernel_rfl)) (fun an73 n73 => ?_)
   refine sc n73.ok rfl (wn _ rfl) rfl (o_fv1 (caps := caps) hf (n73.ne rfl n72.at_) n73.at_) (hc _ (List.mem_of_getElem? ((hdI29.rest j (Nat.le_refl _)).symm.trans h51x)) w64 F69) ?_
   rintro _ w75 ⟨rfl, g76⟩
   refine ⟨_, rfl, fun an74 n74 => ?_⟩
   have G77 := G66.trans g76
   have B78 := u65b.gr g76
   have z79 := Nat.le_trans z67 g76.size
   have O80 := ow_gr O68 g76
   have F81 := gb_gr F69 g76
   refine sv n74.ok rfl (wn _ rfl) rfl (o_notI n74.at_) (fun an82 n82 => ?_)
   refine wpList_nil ?_
   refine th_n (hK70 _ _ ?_)
   cases c83 : (!(p xh51))
   ·refine wp_cond_false ((n82.at_).trans (congrArg Value.bool (c83))) ?_
    refine wp_skip ?_
    refine ib_n ?_
    refine th_n (hK44 _ _ ?_)
    refine wp_region_lit ?_
    have e84 := n82.ne rfl (n74.ne rfl (n73.ne rfl (n72.ne rfl (n53.ne rfl (n52.ne rfl (n50.ne rfl (n49.ne rfl e48)))))))
    refine sv n82.ok rfl (wn _ rfl) rfl (o_mv e84) (fun an85 n85 => ?_)
    refine sv n85.ok rfl (wn _ rfl) rfl (o_add (r := ((j + 1 : Nat) : Int)) n85.at_ ev_const (by omega) (by omega)) (fun an86 n86 => ?_)
    refine sv n86.ok rfl (wn _ rfl) rfl (o_as n86.at_) (fun an87 n87 => ?_)
    refine wpList_nil ?_
    have e88 := n87.ne rfl (n86.ne rfl (n85.ne rfl (n82.ne rfl (n74.ne rfl (n73.ne rfl (n72.ne rfl (n53.ne rfl (n52.ne rfl (n50.ne rfl (n49.ne rfl (n47.ne rfl e46)))))))))))
    have e89 := n87.ne rfl (n86.ne rfl (n85.ne rfl (n82.ne rfl (n74.ne rfl (n73.ne rfl (n72.ne rfl e71))))))
    have e90 := n87.ne rfl (n86.ne rfl (n85.ne rfl (n82.ne rfl (n74.ne rfl (n73.ne rfl (n72.ne rfl (n53.ne rfl (n52.ne rfl (n50.ne rfl (n49.ne rfl (n47.ne rfl (n42.ne rfl (n41.ne rfl (n40.ne rfl (n39.ne rfl s4I29)))))))))))))))
    have e91 := n87.ne rfl (n86.ne rfl (n85.ne rfl (n82.ne rfl (n74.ne rfl (n73.ne rfl (n72.ne rfl (n53.ne rfl (n52.ne rfl (n50.ne rfl (n49.ne rfl (n47.ne rfl (n42.ne rfl (n41.ne rfl (n40.ne rfl (n39.ne rfl s5I29)))))))))))))))
    exact th_n (hKI29 _ _ _ (by omega) ⟨i, j + 1, M, rfl, n87.ok, G77, e88, e89, e90, e91, n87.at_, F81, O80, z79, DelAt.skip hdI29 ((hdI29.rest j (Nat.le_refl _)).symm.trans h51x) (by simpa using c83)⟩)
   ·refine wp_cond_true ((n82.at_).trans (congrArg Value.bool (c83))) ?_
    refine wp_seq_k (fun K92 hK92 => ?_)
    refine wp_region_lit ?_
    have e93 := n82.ne rfl (n74.ne rfl (n73.ne rfl (n72.ne rfl (n53.ne rfl (n52.ne rfl (n50.ne rfl (n49.ne rfl (n47.ne rfl e46))))))))
    refine sv n82.ok rfl (wn _ rfl) rfl (o_mv e93) (fun an94 n94 => ?_)
    have e95 := n94.ne rfl (n82.ne rfl (n74.ne rfl (n73.ne rfl (n72.ne rfl (n53.ne rfl (n52.ne rfl (n50.ne rfl (n49.ne rfl (n47.ne rfl (n42.ne rfl (n41.ne rfl (n40.ne rfl (n39.ne rfl s5I29)))))))))))))
    refine sv n94.ok rfl (wn _ rfl) rfl (o_mv e95) (fun an96 n96 => ?_)
    have e97 := n96.ne rfl (n94.ne rfl (n82.ne rfl (n74.ne rfl (n73.ne rfl (n72.ne rfl n53.at_)))))
    refine sv n96.ok rfl (wn _ rfl) rfl (o_ldR e97 B78 Tryz.underlying35 rfl (by kernel_rfl)) (fun an98 n98 => ?_)
    refine sv n98.ok rfl (wn _ rfl) rfl (o_ia (i := i) (s := 3) (n98.ne rfl (n96.ne rfl n94.at_)) (n98.ne rfl n96.at_) Tryz.underlying22 (by kernel_rfl) (by omega)) (fun an99 n99 => ?_)
    refine s_putE (u := xh51) (i := i) encP_ok (wn _ rfl) n99.at_ (n99.ne rfl n98.at_) (by kernel_rfl) O80 hdI29.len.symm (by omega) (fun w100 O102 gg101 => ?_)
    have G103 := Gr.grown G77 gg101 (fun k e => Nat.le_trans hB (ow_lt O80 k e))
    have z105 := Nat.le_trans z79 gg101.size
    have F106 := gb_gb F81 gg101
    refine wpList_nil ?_
    refine th_n (hK92 _ _ ?_)
    refine wp_region_lit ?_
    have e107 := n99.ne rfl (n98.ne rfl (n96.ne rfl e95))
    refine sv n99.ok rfl (wn _ rfl) rfl (o_mv e107) (fun an108 n108 => ?_)
    refine sv n108.ok rfl (wn _ rfl) rfl (o_add (r := ((i + 1 : Nat) : Int)) n108.at_ ev_const (by omega) (by omega)) (fun an109 n109 => ?_)
    refine sv n109.ok rfl (wn _ rfl) rfl (o_as n109.at_) (fun an110 n110 => ?_)
    refine wpList_nil ?_
    refine ib_n ?_
    refine th_n (hK44 _ _ ?_)
    refine wp_region_lit ?_
    have e111 := n110.ne rfl (n109.ne rfl (n108.ne rfl (n99.ne rfl (n98.ne rfl (n96.ne rfl (n94.ne rfl (n82.ne rfl (n74.ne rfl (n73.ne rfl (n72.ne rfl (n53.ne rfl (n52.ne rfl (n50.ne rfl (n49.ne rfl e48))))))))))))))
    refine sv n110.ok rfl (wn _ rfl) rfl (o_mv e111) (fun an112 n112 => ?_)
    refine sv n112.ok rfl (wn _ rfl) rfl (o_add (r := ((j + 1 : Nat) : Int)) n112.at_ ev_const (by omega) (by omega)) (fun an113 n113 => ?_)
    refine sv n113.ok rfl (wn _ rfl) rfl (o_as n113.at_) (fun an114 n114 => ?_)
    refine wpList_nil ?_
    have e115 := n114.ne rfl (n113.ne rfl (n112.ne rfl (n110.ne rfl (n109.ne rfl (n108.ne rfl (n99.ne rfl (n98.ne rfl (n96.ne rfl (n94.ne rfl e93)))))))))
    have e116 := n114.ne rfl (n113.ne rfl (n112.ne rfl (n110.ne rfl (n109.ne rfl (n108.ne rfl (n99.ne rfl (n98.ne rfl (n96.ne rfl (n94.ne rfl (n82.ne rfl (n74.ne rfl (n73.ne rfl (n72.ne rfl e71)))))))))))))
    have e117 := n114.ne rfl (n113.ne rfl (n112.ne rfl (n110.ne rfl (n109.ne rfl (n108.ne rfl (n99.ne rfl (n98.ne rfl (n96.ne rfl (n94.ne rfl (n82.ne rfl (n74.ne rfl (n73.ne rfl (n72.ne rfl (n53.ne rfl (n52.ne rfl (n50.ne rfl (n49.ne rfl (n47.ne rfl (n42.ne rfl (n41.ne rfl (n40.ne rfl (n39.ne rfl s4I29))))))))))))))))))))))
    have e118 := n114.ne rfl (n113.ne rfl (n112.ne rfl n110.at_))
    exact th_n (hKI29 _ _ _ (by omega) ⟨i + 1, j + 1, M.set i xh51, rfl, n114.ok, G103, e115, e116, e117, e118, n114.at_, F106, O102, z105, DelAt.keep hdI29 ((hdI29.rest j (Nat.le_refl _)).symm.trans h51x) (by simpa using c83)⟩)
  ·refine wp_cond_false ((n42.at_).trans (congrArg Value.bool (decide_eq_false c43))) ?_
   obtain rfl : j = List.length K := by omega
   refine wp_exit ?_
   refine th_x ?_
   refine th_x ?_
   refine ib_x ?_
   refine th_n (hK24 _ _ ?_)
   refine wp_seq_k (fun K119 hK119 => ?_)
   refine wp_region_lit ?_
   have e120 := n42.ne rfl (n41.ne rfl (n40.ne rfl (n39.ne rfl s0I29)))
   refine sv n42.ok rfl (wn _ rfl) rfl (o_mv e120) (fun an121 n121 => ?_)
   have e122 := n121.ne rfl (n42.ne rfl (n41.ne rfl (n40.ne rfl (n39.ne rfl s5I29))))
   refine sv n121.ok rfl (wn _ rfl) rfl (o_mv e122) (fun an123 n123 => ?_)
   refine sv n123.ok rfl (wn _ rfl) rfl (o_cutLt (k := i) (s := 3) (n123.ne rfl n121.at_) n123.at_ Tryz.underlying22 (by kernel_rfl) (by omega) (by omega)) (fun an124 n124 => ?_)
   refine s_clear (k := i) (z := .agg #[.slice none 0 0, .slice none 0 0, .slice none 0 0]) encP_ok (wn _ rfl) n124.at_ Tryz.underlying22 (by kernel_rfl) rfl (zero_parts) okrI29 hdI29.len.symm (by omega) (fun w125 O127 gg126 => ?_)
   have F130 := gb_gb fgbI29 gg126
   refine wpList_nil ?_
   refine th_n (hK119 _ _ ?_)
   refine wp_seq_k (fun K131 hK131 => ?_)
   refine wp_region_lit ?_
   have e132 := n124.ne rfl (n123.ne rfl (n121.ne rfl e120))
   refine sv n124.ok rfl (wn _ rfl) rfl (o_mv e132) (fun an133 n133 => ?_)
   have e134 := n133.ne rfl (n124.ne rfl (n123.ne rfl e122))
   refine sv n133.ok rfl (wn _ rfl) rfl (o_mv e134) (fun an135 n135 => ?_)
   refine sv n135.ok rfl (wn _ rfl) rfl (o_cut (k := i) (s := 3) (n135.ne rfl n133.at_) n135.at_ Tryz.underlying22 (by kernel_rfl) (by omega)) (fun an136 n136 => ?_)
   refine sv n136.ok rfl (wn _ rfl) rfl (o_as n136.at_) (fun an137 n137 => ?_)
   refine wpList_nil ?_
   refine th_n (hK131 _ _ ?_)
   refine wp_ret ?_
   exact ret1 n137.ok rfl (n137.at_) ⟨i, rfl, hdI29.count, by have h := O127; rw [hdI29.end_] at h; exact h, F130⟩
theorem deleteP (K : List PtX) (v : Value) (base : Nat) (f : FuncId) (caps : List Value) (p : PtX → Bool) (hf : FnOk Tryz.prog f) (hl : K.length ≤ 100000) (w0 w : World) (hG : Gr w0 w) (hB : w0.heap.size ≤ base) (hz : base ≤ w.heap.size)
    (ho : w.ownsRow base 35 3 v K.length (flatE encP K)) (hc : ∀ x ∈ K, ∀ w1, w.grownBy w1 v.ownBlock → Calls Tryz.prog f (.agg #[.slice x.fa x.fn x.fc, .slice x.va x.vn x.vc, .slice x.ma x.mn x.mc] :: caps).toArray w1 fun e w2 => e = .returned (.bool (p x)) ∧ Gr w1 w2) :
    Calls Tryz.prog 102 #[v, .func (.func f) #[] caps.toArray] w fun e w' => ∃ u, e = .returned u ∧ u.ownBlock = v.ownBlock ∧ w'.ownsRow base 35 3 u (K.filter (fun x => !p x)).length (flatE encP (K.filter (fun x => !p x))) ∧ w.grownBy w' v.ownBlock := by
  have ho' := ho
  obtain ⟨-, ⟨rfl, hn⟩ | ⟨g, cap, cur, rfl, hb, hg, hnc, hcm, hcs, ht⟩⟩ := ho'
  · obtain rfl : K = [] := List.eq_nil_of_length_eq_zero hn
    refine (deleteP0 f caps p hf w).mono ?_
    rintro e w' ⟨rfl, g⟩
    exact ⟨_, rfl, rfl, World.ownsRow_nil _ _ _ _, gb_of g⟩
  · refine (deleteP1 K g cap base f caps p hf hl hnc w0 w hG hB hz ho hc).mono ?_
    rintro e w' ⟨n, rfl, rfl, h1, h2⟩
    exact ⟨_, rfl, rfl, h1, h2⟩
end Go.Proofs.YtbpkfkljeibjoaaGreat
/- The document's sets of dots: Size, Formed, Know. -/
namespace Rm
open Go Go.RowKit Gx
def a5 (f : Nat → Int) : Array Value := #[.int .i64 (f 0), .int .i64 (f 1), .int .i64 (f 2), .int .i64 (f 3), .int .i64 (f 4)]
def u5 (f : Nat → Int) (s : Nat) (z : Int) : Nat → Int := fun t => if t = s then z else f t
theorem a5_at (f : Nat → Int) (s : Nat) (h : s < 5) : (a5 f)[s]? = some (.int .i64 (f s)) := by
  match s, h with
  | 0, _ | 1, _ | 2, _ | 3, _ | 4, _ => rfl
theorem a5_set (f : Nat → Int) (s : Nat) (z : Int) (h : s < 5) : (a5 f).setIfInBounds s (.int .i64 z) = a5 (u5 f s z) := by
  match s, h with
  | 0, _ | 1, _ | 2, _ | 3, _ | 4, _ => rfl
theorem a5_one (f : Nat → Int) : (a5 f).all (·.oneCell') = true := by simp [a5, Value.oneCell']
def gv (V : List Int) (i : Nat) : Nat → Int := fun s => if s < i then V.getD s 0 else 0
theorem gv_zero (V : List Int) : gv V 0 = fun _ => 0 := by funext s; simp [gv]
theorem gv_next {V : List Int} {i : Nat} {x : Int} (h : V[i]? = some x) : u5 (gv V i) i x = gv V (i + 1) := by
  funext s
  unfold u5 gv
  by_cases e : s = i
  · subst e; simp [List.getD, h]
  · rw [if_neg e]
    by_cases q : s < i
    · rw [if_pos q, if_pos (by omega)]
    · rw [if_neg q, if_neg (by omega)]
theorem badV_ok {V : List Int} {i : Nat} {x : Int} (h : V[i]? = some x) (k : 0 ≤ x ∧ x ≤ 1000) : badV V i = 0 := by
  unfold badV; rw [h]; simp only; rw [if_neg (by omega)]
theorem badV_bad {V : List Int} {i : Nat} {x : Int} (h : V[i]? = some x) (k : ¬ (0 ≤ x ∧ x ≤ 1000)) : badV V i = 1 := by
  unfold badV; rw [h]; simp only; rw [if_pos (by omega)]
theorem chk_vec {V : List Int} {M : List (Int × Int)} {i : Nat} (hl : ¬ (5 < V.length ∨ 60 < M.length)) (h : ∀ j, j < i → badV V j = 0) (hi : i < V.length) (hb : badV V i = 1) : chkK V M = 1 := by
  have h1 : first (badV V) V.length = 1 := (first_some h hi (by omega)).trans hb
  have h2 : chkV V = 1 := by unfold chkV; rw [if_pos (by omega), h1]
  rw [Go.Proofs.YtbpkfkljeibjoaaGreat.chkK_vec hl (by omega), h2]
theorem chk_last {V : List Int} {M : List (Int × Int)} (hl : ¬ (5 < V.length ∨ 60 < M.length)) (h : ∀ j, j < V.length → badV V j = 0) (h0 : 0 < V.length) (hz : V[V.length - 1]? = some 0) : chkK V M = 3 := by
  have h2 : chkV V = 3 := by
    unfold chkV
    rw [if_neg (by rw [first_none h]; simp), if_pos (by rw [List.getLast?_eq_getElem?]; exact hz)]
  rw [Go.Proofs.YtbpkfkljeibjoaaGreat.chkK_vec hl (by omega), h2]
theorem chkV_ok {V : List Int} (h : ∀ j, j < V.length → badV V j = 0) (hz : V.length = 0 ∨ ∃ x, V[V.length - 1]? = some x ∧ x ≠ 0) : chkV V = 0 := by
  unfold chkV
  rw [if_neg (by rw [first_none h]; simp), if_neg ?_]
  rw [List.getLast?_eq_getElem?]
  rcases hz with e | ⟨x, e, hx⟩
  · rw [List.eq_nil_of_length_eq_zero e]; simp
  · rw [e]; simpa using hx
theorem chk_dot {V : List Int} {M : List (Int × Int)} {k : Nat} {d : Int} (hl : ¬ (5 < V.length ∨ 60 < M.length)) (hv : chkV V = 0) (h : ∀ j, j < k → badM (natsI V) M j = 0) (hk : k < M.length) (hb : badM (natsI V) M k = d) (hd : d ≠ 0) : chkK V M = d := by
  rw [Go.Proofs.YtbpkfkljeibjoaaGreat.chkK_more hl hv]
  unfold chkM
  rw [first_some h hk (by omega), hb]
theorem chk_ok {V : List Int} {M : List (Int × Int)} (hl : ¬ (5 < V.length ∨ 60 < M.length)) (hv : chkV V = 0) (h : ∀ j, j < M.length → badM (natsI V) M j = 0) : chkK V M = 0 := by
  rw [Go.Proofs.YtbpkfkljeibjoaaGreat.chkK_more hl hv]
  exact first_none h
theorem gv_cv {V : List Int} (h : ∀ j, j < V.length → badV V j = 0) (s : Nat) {i : Nat} (hi : V.length ≤ i) : gv V i s = (cv (natsI V) s : Int) := by
  have hb := badV_zero h
  unfold gv cv natsI
  rw [List.getD_eq_getElem?_getD, List.getD_eq_getElem?_getD, List.getElem?_map]
  cases e : V[s]? with
  | none => simp
  | some x =>
    have := hb x (List.mem_of_getElem? e)
    have hs := (List.getElem?_eq_some_iff.1 e).1
    rw [if_pos (by omega)]
    simp; omega
theorem gv_le {V : List Int} (h : ∀ j, j < V.length → badV V j = 0) (i s : Nat) : 0 ≤ gv V i s ∧ gv V i s ≤ 1000 := by
  have hb := badV_zero h
  unfold gv
  split
  · rw [List.getD_eq_getElem?_getD]
    cases e : V[s]? with
    | none => simp
    | some x => exact hb x (List.mem_of_getElem? e)
  · omega
theorem badM_dot {v : List Nat} {M : List (Int × Int)} {k : Nat} {d : Int × Int} (h : M[k]? = some d) (hb : dotB d = false) : badM v M k = 1 := by
  unfold badM; rw [h]; simp only; rw [if_pos hb]
theorem badM_form {v : List Nat} {M : List (Int × Int)} {k : Nat} {d : Int × Int} (h : M[k]? = some d) (hb : dotB d = true) (hf : d.2 < (cv v d.1.toNat : Int) + 2 ∨ (0 < k ∧ ¬ ltI (M.getD (k - 1) (0, 0)) d)) : badM v M k = 3 := by
  unfold badM; rw [h]; simp only; rw [if_neg (by rw [hb]; simp), if_pos hf]
theorem badM_ok {v : List Nat} {M : List (Int × Int)} {k : Nat} {d : Int × Int} (h : M[k]? = some d) (hb : dotB d = true) (hf : ¬ (d.2 < (cv v d.1.toNat : Int) + 2 ∨ (0 < k ∧ ¬ ltI (M.getD (k - 1) (0, 0)) d))) : badM v M k = 0 := by
  unfold badM; rw [h]; simp only; rw [if_neg (by rw [hb]; simp), if_neg hf]
theorem all_up {f : Nat → Int} {k : Nat} (h : ∀ j, j < k → f j = 0) (hk : f k = 0) : ∀ j, j < k + 1 → f j = 0 := by
  intro j hj
  by_cases e : j = k
  · rw [e]; exact hk
  · exact h j (by omega)
def lastD (M : List (Int × Int)) (k : Nat) (a b : Int) : Prop := (k = 0 ∧ a = -1 ∧ b = 0) ∨ (0 < k ∧ M[k - 1]? = some (a, b))
theorem lastD_lt {M : List (Int × Int)} {k : Nat} {a b x y : Int} (h : lastD M k a b) (hx : 0 ≤ x) (hc : x < a ∨ (x = a ∧ y ≤ b)) : 0 < k ∧ ¬ ltI (M.getD (k - 1) (0, 0)) (x, y) := by
  rcases h with ⟨h1, h2, h3⟩ | ⟨h1, h2⟩
  · omega
  · refine ⟨h1, ?_⟩
    rw [List.getD_eq_getElem?_getD, h2]
    unfold ltI
    simp only [Option.getD_some]
    omega
theorem lastD_ge {M : List (Int × Int)} {k : Nat} {a b x y : Int} (h : lastD M k a b) (hc : ¬ (x < a ∨ (x = a ∧ y ≤ b))) : ¬ (0 < k ∧ ¬ ltI (M.getD (k - 1) (0, 0)) (x, y)) := by
  rcases h with ⟨h1, h2, h3⟩ | ⟨h1, h2⟩
  · omega
  · rintro ⟨-, h3⟩
    apply h3
    rw [List.getD_eq_getElem?_getD, h2]
    unfold ltI
    simp only [Option.getD_some]
    omega
end Rm
namespace Gx
open Go Go.RowKit Rm
section
variable {P : Program} {ev : Operand → Value} {d : Option Tmp} {ty : TypeId} {p : String} {af : Array Edge} {g : Option (Nat × Bool)} {w : World}
theorem o_notD {t : TypeId} {x : Operand} {q : Prop} [Decidable q] (hx : ev x = .bool (decide q)) : (execOp ev (Oper.mk d (.unOp .not t x) ty p af g)).run P w = .ok (.value (.bool (decide (¬ q)))) w := o_not hx (by simp)
end
end Gx
namespace Go.Proofs.YtbpkfkljeibjoaaGreat
open Go.RowKit Rm Gx
theorem rwithin_p (x a b : Int) (w : World) : Calls Tryz.prog 106 #[.int .i64 x, .int .i64 a, .int .i64 b] w fun e w' => e = .returned (.bool (decide (a ≤ x ∧ x ≤ b))) ∧ Gr w w' :=
  (rwithin_any x a b w).mono fun e w' ⟨h, h'⟩ => ⟨by rw [h, Bool.decide_and], by rw [h']; exact Gr.refl _⟩
theorem rdot_p (x y : Int) (w : World) : Calls Tryz.prog 107 #[.agg #[.int .i64 x, .int .i64 y]] w fun e w' => e = .returned (.bool (decide (dotB (x, y) = true))) ∧ Gr w w' :=
  (rdot_any (x, y) w).mono fun e w' ⟨h, h'⟩ => ⟨by rw [h]; simp, h'⟩
theorem a5_zero : (Tryz.prog.info? 129).bind (·.zero) = some (.agg (a5 fun _ => 0)) := by kernel_rfl
theorem a5_size (f : Nat → Int) : (Tryz.prog.info? 129).map (·.size) = some (a5 f).size := by kernel_rfl
set_option maxHeartbeats 8000000 in
set_option maxRecDepth 100000 in
theorem rknow_k (va ma : Option Addr) (vc mc : Nat) (V : List Int) (M : List (Int × Int)) (w : World) (hv : RdI1 w va V) (hm : RdDI w ma M) :
  Calls Tryz.prog 41 #[.agg #[.slice va V.length vc, .slice ma M.length mc]] w fun e w' => e = .returned (.int .i64 (chkK V M)) ∧ Gr w w' := by
 refine enter (N := 92) Tryz.func41 rfl rfl rfl (fun a0 ok0 h0 => ?_)
 have e0_0 : a0.eval (.tmp 0) = .agg #[.slice va V.length vc, .slice ma M.length mc] := h0 0 _ rfl
 clear h0
 have G0 := Gr.refl w
 refine wp_seq_k (fun K1 hK1 => ?_)
 refine wp_region_lit ?_
 refine sal (cs := #[.slice va V.length vc, .slice ma M.length mc]) ok0 rfl (wn _ rfl) rfl (o_box e0_0) (fun an2 w4 b3 W5 n2 => ?_)
 have G7 := G0.trans W5.gr
 refine sv n2.ok rfl (wn _ rfl) rfl (o_as ev_const) (fun an8 n8 => ?_)
 refine wpList_nil ?_
 refine th_n (hK1 _ _ ?_)
 refine wp_seq_k (fun K9 hK9 => ?_)
 refine wp_seq_k (fun K10 hK10 => ?_)
 refine wp_region_lit ?_
 refine sv n8.ok rfl (wn _ rfl) rfl (o_fa (z := 1) (n8.ne rfl n2.at_) Tryz.underlying33 rfl (by kernel_rfl) rfl rfl) (fun an11 n11 => ?_)
 refine sv n11.ok rfl (wn _ rfl) rfl (o_ld n11.at_ (Tryz.isAgg30 _) (W5.bk.cell _ rfl)) (fun an12 n12 => ?_)
 refine sv n12.ok rfl (wn _ rfl) rfl (o_len n12.at_ Tryz.underlying30) (fun an13 n13 => ?_)
 refine sv n13.ok rfl (wn _ rfl) rfl (o_gtI n13.at_ ev_const) (fun an14 n14 => ?_)
 refine sv n14.ok rfl (wn _ rfl) rfl (o_mv n14.at_) (fun an15 n15 => ?_)
 by_cases c16 : (5 : Int) < ((V.length : Nat) : Int)
 ·have e17 := (n15.at_).trans (congrArg Value.bool (decide_eq_true c16))
  refine sn n15.ok rfl (wgF rfl (yl 4 true rfl e17) rfl) rfl (fun an19 n19 => ?_)
  refine sn n19.ok rfl (wgF rfl (yl 4 true rfl (n19.ne rfl e17)) rfl) rfl (fun an20 n20 => ?_)
  refine sn n20.ok rfl (wgF rfl (yl 4 true rfl (n20.ne rfl (n19.ne rfl e17))) rfl) rfl (fun an21 n21 => ?_)
  have e22 := n21.ne rfl (n20.ne rfl (n19.ne rfl e17))
  refine sn n21.ok rfl (wgF rfl (yl 4 true rfl e22) rfl) rfl (fun an23 n23 => ?_)
  refine sv n23.ok rfl (wn _ rfl) rfl (o_pkT (n23.ne rfl e22) ev_const) (fun an24 n24 => ?_)
  refine wpList_nil ?_
  refine th_n (hK10 _ _ ?_)
  refine wp_cond_true (n24.at_) ?_
  refine wp_seq_k (fun K25 hK25 => ?_)
  refine wp_region_lit ?_
  refine sv n24.ok rfl (wn _ rfl) rfl (o_as ev_const) (fun an26 n26 => ?_)
  refine wpList_nil ?_
  refine th_n (hK25 _ _ ?_)
  refine wp_ret ?_
  refine th_r ?_
  exact ret1 n26.ok rfl (n26.at_) ⟨by rw [Go.Proofs.YtbpkfkljeibjoaaGreat.chkK_large (by omega)], G7⟩
 ·have e27 := (n15.at_).trans (congrArg Value.bool (decide_eq_false c16))
  have e29 := n15.ne rfl (n14.ne rfl (n13.ne rfl (n12.ne rfl (n11.ne rfl (n8.ne rfl n2.at_)))))
  refine sv n15.ok rfl (wgT rfl (yl 4 false rfl e27) rfl) rfl (o_fa (z := 1) e29 Tryz.underlying33 rfl (by kernel_rfl) rfl rfl) (fun an30 n30 => ?_)
  refine sv n30.ok rfl (wgT rfl (yl 4 false rfl (n30.ne rfl e27)) rfl) rfl (o_ld n30.at_ (Tryz.isAgg31 _) (W5.bk.cell _ rfl)) (fun an31 n31 => ?_)
  refine sv n31.ok rfl (wgT rfl (yl 4 false rfl (n31.ne rfl (n30.ne rfl e27))) rfl) rfl (o_len n31.at_ Tryz.underlying31) (fun an32 n32 => ?_)
  have e33 := n32.ne rfl (n31.ne rfl (n30.ne rfl e27))
  refine sv n32.ok rfl (wgT rfl (yl 4 false rfl e33) rfl) rfl (o_gtI n32.at_ ev_const) (fun an34 n34 => ?_)
  refine sv n34.ok rfl (wn _ rfl) rfl (o_pkF (n34.ne rfl e33) n34.at_) (fun an35 n35 => ?_)
  refine wpList_nil ?_
  refine th_n (hK10 _ _ ?_)
  by_cases c36 : (60 : Int) < ((M.length : Nat) : Int)
  ·refine wp_cond_true ((n35.at_).trans (congrArg Value.bool (decide_eq_true c36))) ?_
   refine wp_seq_k (fun K37 hK37 => ?_)
   refine wp_region_lit ?_
   refine sv n35.ok rfl (wn _ rfl) rfl (o_as ev_const) (fun an38 n38 => ?_)
   refine wpList_nil ?_
   refine th_n (hK37 _ _ ?_)
   refine wp_ret ?_
   refine th_r ?_
   exact ret1 n38.ok rfl (n38.at_) ⟨by rw [Go.Proofs.YtbpkfkljeibjoaaGreat.chkK_large (by omega)], G7⟩
  ·refine wp_cond_false ((n35.at_).trans (congrArg Value.bool (decide_eq_false c36))) ?_
   refine wp_skip ?_
   refine th_n (hK9 _ _ ?_)
   refine wp_seq_k (fun K39 hK39 => ?_)
   refine wp_region_lit ?_
   refine sv n35.ok rfl (wn _ rfl) rfl (o_b0A Tryz.underlying129 a5_zero (by kernel_rfl)) (fun an40 n40 => ?_)
   refine sal (cs := a5 (fun _ => 0)) n40.ok rfl (wn _ rfl) rfl (o_al (z := .agg (a5 (fun _ => 0))) a5_zero) (fun an41 w43 b42 W44 n41 => ?_)
   have l45 : b3 < b42 := by rw [W44.eq]; exact W5.bk.lt
   have l46 : w.heap.size ≤ b42 := by rw [W44.eq]; exact G7.size
   have G47 := G7.trans W44.gr
   have B48 := W5.bk.gr W44.gr
   refine ssR rfl (wn _ rfl) (o_stR n41.at_ (n41.ne rfl n40.at_) W44.bk (a5_size _) rfl (a5_one _)) W44.bk (fun w49 u50 u50b => ?_)
   have G51 : Gr w w49 := Below.upd G47 l46 u50
   have B52 := B48.upd u50 (Nat.ne_of_lt l45)
   refine wpList_nil ?_
   refine th_n (hK39 _ _ ?_)
   refine wp_seq_k (fun K53 hK53 => ?_)
   refine wp_seq_k (fun K54 hK54 => ?_)
   refine wp_region_lit ?_
   have e55 := n41.ne rfl (n40.ne rfl (n35.ne rfl (n34.ne rfl (n32.ne rfl (n31.ne rfl (n30.ne rfl e29))))))
   refine sv n41.ok rfl (wn _ rfl) rfl (o_fa (z := 1) e55 Tryz.underlying33 rfl (by kernel_rfl) rfl rfl) (fun an56 n56 => ?_)
   refine sv n56.ok rfl (wn _ rfl) rfl (o_ld n56.at_ (Tryz.isAgg30 _) (B52.cell _ rfl)) (fun an57 n57 => ?_)
   refine sv n57.ok rfl (wn _ rfl) rfl (o_len n57.at_ Tryz.underlying30) (fun an58 n58 => ?_)
   refine sv n58.ok rfl (wn _ rfl) rfl (o_mv ev_const) (fun an59 n59 => ?_)
   refine wpList_nil ?_
   refine th_n (hK54 _ _ ?_)
   refine wp_block ?_
   have hl : ¬ (5 < V.length ∨ 60 < M.length) := by omega
   have e61 := n59.ne rfl (n58.ne rfl (n57.ne rfl (n56.ne rfl e55)))
   have e62 := n59.ne rfl (n58.ne rfl (n57.ne rfl (n56.ne rfl (n41.ne rfl (n40.ne rfl (n35.ne rfl (n34.ne rfl (n32.ne rfl (n31.ne rfl (n30.ne rfl (n15.ne rfl (n14.ne rfl (n13.ne rfl (n12.ne rfl (n11.ne rfl n8.at_)))))))))))))))
   have e63 := n59.ne rfl (n58.ne rfl (n57.ne rfl (n56.ne rfl n41.at_)))
   refine lp (fun (nL : Nat) (aL : Act) (wL : World) => ∃ i : Nat, nL = V.length - i ∧ Ok 92 aL ∧ Gr w wL ∧ (aL.eval (.tmp 1) = .pointer (some ⟨b3, 0, none⟩)) ∧ (aL.eval (.tmp 2) = .int .i64 0) ∧ (aL.eval (.tmp 3) = .pointer (some ⟨b42, 0, none⟩)) ∧ (aL.eval (.tmp 22) = .slice va V.length vc) ∧ (aL.eval (.tmp 23) = .int .i64 ((V.length : Nat) : Int)) ∧ (aL.eval (.tmp 24) = .int .i64 (i : Int)) ∧ (Bk wL b3 #[.slice va V.length vc, .slice ma M.length mc] 33) ∧ (Bk wL b42 (a5 (gv V i)) 129) ∧ (i ≤ V.length) ∧ (∀ j, j < i → badV V j = 0)) _ ⟨0, rfl, n59.ok, G51, e61, e62, e63, (n59.ne rfl (n58.ne rfl n57.at_)), (n59.ne rfl n58.at_), n59.at_, B52, (by rw [gv_zero]; exact u50b), by omega, fun j h => by omega⟩ ?_
   rintro m64 aI60 w66 ⟨i, hmI60, okI60, GI60, s1I60, s2I60, s3I60, s22I60, s23I60, s24I60, kb3I60, kb42I60, hiI60, hbI60⟩ KI60 hKI60
   refine wp_seq_k (fun K67 hK67 => ?_)
   refine wp_region_lit ?_
   refine sv okI60 rfl (wn _ rfl) rfl (o_ltI s24I60 s23I60) (fun an68 n68 => ?_)
   refine wpList_nil ?_
   refine th_n (hK67 _ _ ?_)
   refine wp_seq_k (fun K69 hK69 => ?_)
   by_cases c70 : (i : Int) < ((V.length : Nat) : Int)
   ·refine wp_cond_true ((n68.at_).trans (congrArg Value.bool (decide_eq_true c70))) ?_
    refine wp_skip ?_
    refine th_n (hK69 _ _ ?_)
    refine wp_seq_k (fun K71 hK71 => ?_)
    refine wp_block ?_
    refine wp_seq_k (fun K72 hK72 => ?_)
    refine wp_region_lit ?_
    refine sv n68.ok rfl (wn _ rfl) rfl (o_mv (n68.ne rfl s24I60)) (fun an73 n73 => ?_)
    have h74l : i < List.length V := by omega
    obtain ⟨bh74, fh74, h74a, h74b, h74c⟩ := hv (ne_nil_of_lt h74l)
    obtain ⟨xh74, h74x⟩ : ∃ x, V[i]? = some x := ⟨_, List.getElem?_eq_getElem h74l⟩
    refine sv n73.ok rfl (wn _ rfl) rfl (o_iaV (i := i) (s := 1) h74a (n73.ne rfl (n68.ne rfl s22I60)) (n73.ne rfl (n68.ne rfl s24I60)) Tryz.underlying30 (by kernel_rfl) h74l) (fun an75 n75 => ?_)
    refine sv n75.ok rfl (wn _ rfl) rfl (o_ld n75.at_ (Tryz.isAgg3 _) ((Below.cell GI60 h74b).trans (h74c _ _ h74x))) (fun an76 n76 => ?_)
    refine sv n76.ok rfl (wn _ rfl) rfl (o_as (n76.ne rfl (n75.ne rfl n73.at_))) (fun an77 n77 => ?_)
    refine sv n77.ok rfl (wn _ rfl) rfl (o_as (n77.ne rfl n76.at_)) (fun an78 n78 => ?_)
    refine wpList_nil ?_
    refine th_n (hK72 _ _ ?_)
    refine wp_seq_k (fun K79 hK79 => ?_)
    refine wp_seq_k (fun K80 hK80 => ?_)
    refine wp_region_lit ?_
    refine sv n78.ok rfl (wn _ rfl) rfl (o_mv n78.at_) (fun an81 n81 => ?_)
    refine sc n81.ok rfl (wn _ rfl) rfl (o_f3 Tryz.func106 rfl rfl rfl n81.at_ ev_const ev_const) (rwithin_p _ _ _ w66) ?_
    rintro _ w83 ⟨rfl, g84⟩
    refine ⟨_, rfl, fun an82 n82 => ?_⟩
    have G85 := GI60.trans g84
    have B86 := kb3I60.gr g84
    have B87 := kb42I60.gr g84
    refine sv n82.ok rfl (wn _ rfl) rfl (o_notD n82.at_) (fun an88 n88 => ?_)
    refine wpList_nil ?_
    refine th_n (hK80 _ _ ?_)
    by_cases c89 : ¬ ((0 : Int) ≤ xh74 ∧ xh74 ≤ 1000)
    ·refine wp_cond_true ((n88.at_).trans (congrArg Value.bool (decide_eq_true c89))) ?_
     refine wp_seq_k (fun K90 hK90 => ?_)
     refine wp_region_lit ?_
     refine sv n88.ok rfl (wn _ rfl) rfl (o_as ev_const) (fun an91 n91 => ?_)
     refine wpList_nil ?_
     refine th_n (hK90 _ _ ?_)
     refine wp_ret ?_
     refine th_r ?_
     refine ib_r ?_
     refine th_r ?_
     refine th_r ?_
     refine ib_r ?_
     refine th_r ?_
     have hbad := c89
     exact ret1 n91.ok rfl (n91.at_) ⟨by rw [chk_vec hl hbI60 (by omega) (badV_bad h74x hbad)], G85⟩
    ·refine wp_cond_false ((n88.at_).trans (congrArg Value.bool (decide_eq_false c89))) ?_
     refine wp_skip ?_
     refine th_n (hK79 _ _ ?_)
     refine wp_region_lit ?_
     have e92 := n88.ne rfl (n82.ne rfl (n81.ne rfl (n78.ne rfl n77.at_)))
     refine sv n88.ok rfl (wn _ rfl) rfl (o_mv e92) (fun an93 n93 => ?_)
     have e94 := n93.ne rfl (n88.ne rfl (n82.ne rfl (n81.ne rfl n78.at_)))
     refine sv n93.ok rfl (wn _ rfl) rfl (o_mv e94) (fun an95 n95 => ?_)
     have e96 := n95.ne rfl (n93.ne rfl (n88.ne rfl (n82.ne rfl (n81.ne rfl (n78.ne rfl (n77.ne rfl (n76.ne rfl (n75.ne rfl (n73.ne rfl (n68.ne rfl s3I60))))))))))
     refine sv n95.ok rfl (wn _ rfl) rfl (o_iaA (i := i) (s := 1) e96 (n95.ne rfl n93.at_) Tryz.underlying129 (by kernel_rfl) (by omega)) (fun an97 n97 => ?_)
     refine ssC rfl (wn _ rfl) (o_st n97.at_ (n97.ne rfl n95.at_) B87 (by rw [show 0 + (i) * 1 = i by omega]; exact a5_at _ _ (by omega)) (by kernel_rfl) rfl) B87 (fun w98 u99 u99b => ?_)
     have G100 : Gr w w98 := Below.upd G85 l46 u99
     have B101 := B86.upd u99 (Nat.ne_of_lt l45)
     have B102 : Bk w98 b42 (a5 (u5 (gv V i) i xh74)) 129 := (by have h := u99b; rw [show 0 + i * 1 = i by omega, a5_set _ _ _ (by omega)] at h; exact h)
     refine wpList_nil ?_
     refine ib_n ?_
     refine th_n (hK71 _ _ ?_)
     refine wp_region_lit ?_
     have e103 := n97.ne rfl (n95.ne rfl (n93.ne rfl (n88.ne rfl (n82.ne rfl (n81.ne rfl (n78.ne rfl (n77.ne rfl (n76.ne rfl (n75.ne rfl (n73.ne rfl (n68.ne rfl s24I60)))))))))))
     refine sv n97.ok rfl (wn _ rfl) rfl (o_add (r := ((i + 1 : Nat) : Int)) e103 ev_const (by omega) (by omega)) (fun an104 n104 => ?_)
     refine sv n104.ok rfl (wn _ rfl) rfl (o_mv n104.at_) (fun an105 n105 => ?_)
     refine wpList_nil ?_
     have e106 := n105.ne rfl (n104.ne rfl (n97.ne rfl (n95.ne rfl (n93.ne rfl (n88.ne rfl (n82.ne rfl (n81.ne rfl (n78.ne rfl (n77.ne rfl (n76.ne rfl (n75.ne rfl (n73.ne rfl (n68.ne rfl s1I60)))))))))))))
     have e107 := n105.ne rfl (n104.ne rfl (n97.ne rfl (n95.ne rfl (n93.ne rfl (n88.ne rfl (n82.ne rfl (n81.ne rfl (n78.ne rfl (n77.ne rfl (n76.ne rfl (n75.ne rfl (n73.ne rfl (n68.ne rfl s2I60)))))))))))))
     have e108 := n105.ne rfl (n104.ne rfl (n97.ne rfl e96))
     have e109 := n105.ne rfl (n104.ne rfl (n97.ne rfl (n95.ne rfl (n93.ne rfl (n88.ne rfl (n82.ne rfl (n81.ne rfl (n78.ne rfl (n77.ne rfl (n76.ne rfl (n75.ne rfl (n73.ne rfl (n68.ne rfl s22I60)))))))))))))
     have e110 := n105.ne rfl (n104.ne rfl (n97.ne rfl (n95.ne rfl (n93.ne rfl (n88.ne rfl (n82.ne rfl (n81.ne rfl (n78.ne rfl (n77.ne rfl (n76.ne rfl (n75.ne rfl (n73.ne rfl (n68.ne rfl s23I60)))))))))))))
     exact th_n (hKI60 _ _ _ (by omega) ⟨i + 1, rfl, n105.ok, G100, e106, e107, e108, e109, e110, n105.at_, B101, (by rw [← gv_next h74x]; exact B102), by omega, all_up hbI60 (badV_ok h74x (by omega))⟩)
   ·refine wp_cond_false ((n68.at_).trans (congrArg Value.bool (decide_eq_false c70))) ?_
    have hbA : ∀ j, j < V.length → badV V j = 0 := fun j hj => hbI60 j (by omega)
    refine wp_exit ?_
    refine th_x ?_
    refine th_x ?_
    refine ib_x ?_
    refine th_n (hK53 _ _ ?_)
    refine wp_seq_k (fun K111 hK111 => ?_)
    refine wp_seq_k (fun K112 hK112 => ?_)
    refine wp_region_lit ?_
    refine sv n68.ok rfl (wn _ rfl) rfl (o_fa (z := 1) (n68.ne rfl s1I60) Tryz.underlying33 rfl (by kernel_rfl) rfl rfl) (fun an113 n113 => ?_)
    refine sv n113.ok rfl (wn _ rfl) rfl (o_ld n113.at_ (Tryz.isAgg30 _) (kb3I60.cell _ rfl)) (fun an114 n114 => ?_)
    refine sv n114.ok rfl (wn _ rfl) rfl (o_len n114.at_ Tryz.underlying30) (fun an115 n115 => ?_)
    refine sv n115.ok rfl (wn _ rfl) rfl (o_as n115.at_) (fun an116 n116 => ?_)
    refine wpList_nil ?_
    refine th_n (hK112 _ _ ?_)
    refine wp_seq_k (fun K117 hK117 => ?_)
    refine wp_region_lit ?_
    refine sv n116.ok rfl (wn _ rfl) rfl (o_mv n116.at_) (fun an118 n118 => ?_)
    refine sv n118.ok rfl (wn _ rfl) rfl (o_gtI n118.at_ ev_const) (fun an119 n119 => ?_)
    refine sv n119.ok rfl (wn _ rfl) rfl (o_mv n119.at_) (fun an120 n120 => ?_)
    by_cases c121 : (0 : Int) < ((V.length : Nat) : Int)
    ·have e122 := (n120.at_).trans (congrArg Value.bool (decide_eq_true c121))
     have e124 := n120.ne rfl (n119.ne rfl (n118.ne rfl (n116.ne rfl (n115.ne rfl (n114.ne rfl (n113.ne rfl (n68.ne rfl s1I60)))))))
     refine sv n120.ok rfl (wgT rfl (yl 2 true rfl e122) rfl) rfl (o_fa (z := 1) e124 Tryz.underlying33 rfl (by kernel_rfl) rfl rfl) (fun an125 n125 => ?_)
     refine sv n125.ok rfl (wgT rfl (yl 2 true rfl (n125.ne rfl e122)) rfl) rfl (o_ld n125.at_ (Tryz.isAgg30 _) (kb3I60.cell _ rfl)) (fun an126 n126 => ?_)
     have e127 := n126.ne rfl (n125.ne rfl (n120.ne rfl (n119.ne rfl (n118.ne rfl n116.at_))))
     refine sv n126.ok rfl (wgT rfl (yl 2 true rfl (n126.ne rfl (n125.ne rfl e122))) rfl) rfl (o_mv e127) (fun an128 n128 => ?_)
     have e129 := n128.ne rfl (n126.ne rfl (n125.ne rfl e122))
     refine sv n128.ok rfl (wgT rfl (yl 2 true rfl e129) rfl) rfl (o_sub (r := ((V.length - 1 : Nat) : Int)) n128.at_ ev_const (by omega) (by omega)) (fun an130 n130 => ?_)
     have h131l : V.length - 1 < List.length V := by omega
     obtain ⟨bh131, fh131, h131a, h131b, h131c⟩ := hv (ne_nil_of_lt h131l)
     obtain ⟨xh131, h131x⟩ : ∃ x, V[V.length - 1]? = some x := ⟨_, List.getElem?_eq_getElem h131l⟩
     refine sv n130.ok rfl (wgT rfl (yl 2 true rfl (n130.ne rfl e129)) rfl) rfl (o_iaV (i := V.length - 1) (s := 1) h131a (n130.ne rfl (n128.ne rfl n126.at_)) n130.at_ Tryz.underlying30 (by kernel_rfl) h131l) (fun an132 n132 => ?_)
     refine sv n132.ok rfl (wgT rfl (yl 2 true rfl (n132.ne rfl (n130.ne rfl e129))) rfl) rfl (o_ld n132.at_ (Tryz.isAgg3 _) ((Below.cell GI60 h131b).trans (h131c _ _ h131x))) (fun an133 n133 => ?_)
     have e134 := n133.ne rfl (n132.ne rfl (n130.ne rfl e129))
     refine sv n133.ok rfl (wgT rfl (yl 2 true rfl e134) rfl) rfl (o_eqI n133.at_ ev_const) (fun an135 n135 => ?_)
     refine sv n135.ok rfl (wn _ rfl) rfl (o_pkT (n135.ne rfl e134) n135.at_) (fun an136 n136 => ?_)
     refine wpList_nil ?_
     refine th_n (hK117 _ _ ?_)
     by_cases c137 : xh131 = 0
     ·refine wp_cond_true ((n136.at_).trans (congrArg Value.bool (decide_eq_true c137))) ?_
      refine wp_seq_k (fun K138 hK138 => ?_)
      refine wp_region_lit ?_
      refine sv n136.ok rfl (wn _ rfl) rfl (o_as ev_const) (fun an139 n139 => ?_)
      refine wpList_nil ?_
      refine th_n (hK138 _ _ ?_)
      refine wp_ret ?_
      refine th_r ?_
      have hz0 : V[V.length - 1]? = some 0 := by
       have q : xh131 = 0 := by omega
       rw [← q]; exact h131x
      exact ret1 n139.ok rfl (n139.at_) ⟨by rw [chk_last hl hbA (by omega) hz0], GI60⟩
     ·refine wp_cond_false ((n136.at_).trans (congrArg Value.bool (decide_eq_false c137))) ?_
      refine wp_skip ?_
      refine th_n (hK111 _ _ ?_)
      refine wp_seq_k (fun K140 hK140 => ?_)
      refine wp_region_lit ?_
      refine sv n136.ok rfl (wn _ rfl) rfl (o_bd (cells := #[.int .i64 (-1), .int .i64 0]) (vs := [(0, .int .i64 (-1))]) (by simp [ev_const]) (by kernel_rfl)) (fun an141 n141 => ?_)
      refine sal (cs := #[.int .i64 0, .int .i64 0]) n141.ok rfl (wn _ rfl) rfl (o_al (z := .agg #[.int .i64 0, .int .i64 0]) (by kernel_rfl)) (fun an142 w144 b143 W145 n142 => ?_)
      have l146 : b3 < b143 := by rw [W145.eq]; exact kb3I60.lt
      have l147 : b42 < b143 := by rw [W145.eq]; exact kb42I60.lt
      have l148 : w.heap.size ≤ b143 := by rw [W145.eq]; exact GI60.size
      have G149 := GI60.trans W145.gr
      have B150 := kb3I60.gr W145.gr
      have B151 := kb42I60.gr W145.gr
      refine ssR rfl (wn _ rfl) (o_stR n142.at_ (n142.ne rfl n141.at_) W145.bk (by kernel_rfl) rfl (by simp [Value.oneCell'])) W145.bk (fun w152 u153 u153b => ?_)
      have G154 : Gr w w152 := Below.upd G149 l148 u153
      have B155 := B150.upd u153 (Nat.ne_of_lt l146)
      have B156 := B151.upd u153 (Nat.ne_of_lt l147)
      refine wpList_nil ?_
      refine th_n (hK140 _ _ ?_)
      refine wp_seq_k (fun K157 hK157 => ?_)
      refine wp_seq_k (fun K158 hK158 => ?_)
      refine wp_region_lit ?_
      have e159 := n142.ne rfl (n141.ne rfl (n136.ne rfl (n135.ne rfl (n133.ne rfl (n132.ne rfl (n130.ne rfl (n128.ne rfl (n126.ne rfl (n125.ne rfl e124)))))))))
      refine sv n142.ok rfl (wn _ rfl) rfl (o_fa (z := 1) e159 Tryz.underlying33 rfl (by kernel_rfl) rfl rfl) (fun an160 n160 => ?_)
      refine sv n160.ok rfl (wn _ rfl) rfl (o_ld n160.at_ (Tryz.isAgg31 _) (B155.cell _ rfl)) (fun an161 n161 => ?_)
      refine sv n161.ok rfl (wn _ rfl) rfl (o_len n161.at_ Tryz.underlying31) (fun an162 n162 => ?_)
      refine sv n162.ok rfl (wn _ rfl) rfl (o_mv ev_const) (fun an163 n163 => ?_)
      refine wpList_nil ?_
      refine th_n (hK158 _ _ ?_)
      refine wp_block ?_
      have hcv := chkV_ok hbA (.inr ⟨xh131, h131x, by omega⟩)
      have e165 := n163.ne rfl (n162.ne rfl (n161.ne rfl (n160.ne rfl (n142.ne rfl (n141.ne rfl (n136.ne rfl (n135.ne rfl (n133.ne rfl (n132.ne rfl (n130.ne rfl (n128.ne rfl (n126.ne rfl (n125.ne rfl (n120.ne rfl (n119.ne rfl (n118.ne rfl (n116.ne rfl (n115.ne rfl (n114.ne rfl (n113.ne rfl (n68.ne rfl s2I60)))))))))))))))))))))
      have e166 := n163.ne rfl (n162.ne rfl (n161.ne rfl (n160.ne rfl (n142.ne rfl (n141.ne rfl (n136.ne rfl (n135.ne rfl (n133.ne rfl (n132.ne rfl (n130.ne rfl (n128.ne rfl (n126.ne rfl (n125.ne rfl (n120.ne rfl (n119.ne rfl (n118.ne rfl (n116.ne rfl (n115.ne rfl (n114.ne rfl (n113.ne rfl (n68.ne rfl s3I60)))))))))))))))))))))
      have e167 := n163.ne rfl (n162.ne rfl (n161.ne rfl (n160.ne rfl n142.at_)))
      refine lp (fun (nL : Nat) (aL : Act) (wL : World) => ∃ k : Nat, ∃ la : Int, ∃ lb : Int, nL = M.length - k ∧ Ok 92 aL ∧ Gr w wL ∧ (aL.eval (.tmp 2) = .int .i64 0) ∧ (aL.eval (.tmp 3) = .pointer (some ⟨b42, 0, none⟩)) ∧ (aL.eval (.tmp 7) = .pointer (some ⟨b143, 0, none⟩)) ∧ (aL.eval (.tmp 52) = .slice ma M.length mc) ∧ (aL.eval (.tmp 53) = .int .i64 ((M.length : Nat) : Int)) ∧ (aL.eval (.tmp 54) = .int .i64 (k : Int)) ∧ (Bk wL b42 (a5 (gv V i)) 129) ∧ (Bk wL b143 #[.int .i64 (la), .int .i64 (lb)] 55) ∧ (k ≤ M.length) ∧ (∀ j, j < k → badM (natsI V) M j = 0) ∧ (lastD M k la lb)) _ ⟨0, (-1), 0, rfl, n163.ok, G154, e165, e166, e167, (n163.ne rfl (n162.ne rfl n161.at_)), (n163.ne rfl n162.at_), n163.at_, B156, u153b, by omega, fun j h => by omega, .inl ⟨rfl, rfl, rfl⟩⟩ ?_
      rintro m168 aI164 w170 ⟨k, la, lb, hmI164, okI164, GI164, s2I164, s3I164, s7I164, s52I164, s53I164, s54I164, kb42I164, kb143I164, hkI164, hbI164, hlaI164⟩ KI164 hKI164
      refine wp_seq_k (fun K171 hK171 => ?_)
      refine wp_region_lit ?_
      refine sv okI164 rfl (wn _ rfl) rfl (o_ltI s54I164 s53I164) (fun an172 n172 => ?_)
      refine wpList_nil ?_
      refine th_n (hK171 _ _ ?_)
      refine wp_seq_k (fun K173 hK173 => ?_)
      by_cases c174 : (k : Int) < ((M.length : Nat) : Int)
      ·refine wp_cond_true ((n172.at_).trans (congrArg Value.bool (decide_eq_true c174))) ?_
       refine wp_skip ?_
       refine th_n (hK173 _ _ ?_)
       refine wp_seq_k (fun K175 hK175 => ?_)
       refine wp_block ?_
       refine wp_seq_k (fun K176 hK176 => ?_)
       refine wp_region_lit ?_
       have h177l : k < List.length M := by omega
       obtain ⟨bh177, fh177, h177a, h177b, h177c⟩ := hm (ne_nil_of_lt h177l)
       obtain ⟨⟨xh177, yh177⟩, h177x⟩ : ∃ x, M[k]? = some x := ⟨_, List.getElem?_eq_getElem h177l⟩
       refine sv n172.ok rfl (wn _ rfl) rfl (o_iaV (i := k) (s := 2) h177a (n172.ne rfl s52I164) (n172.ne rfl s54I164) Tryz.underlying31 (by kernel_rfl) h177l) (fun an178 n178 => ?_)
       refine sv n178.ok rfl (wn _ rfl) rfl (o_ldA (k := fh177 + k * 2) n178.at_ (cells_to (fun j => Below.cell GI164 h177b) (two_cells (h177c _ _ h177x).1 (h177c _ _ h177x).2)) Tryz.underlying55 rfl (by kernel_rfl)) (fun an179 n179 => ?_)
       refine sal (cs := #[.int .i64 0, .int .i64 0]) n179.ok rfl (wn _ rfl) rfl (o_al (z := .agg #[.int .i64 0, .int .i64 0]) (by kernel_rfl)) (fun an180 w182 b181 W183 n180 => ?_)
       have l184 : b42 < b181 := by rw [W183.eq]; exact kb42I164.lt
       have l185 : b143 < b181 := by rw [W183.eq]; exact kb143I164.lt
       have l186 : w.heap.size ≤ b181 := by rw [W183.eq]; exact GI164.size
       have G187 := GI164.trans W183.gr
       have B188 := kb42I164.gr W183.gr
       have B189 := kb143I164.gr W183.gr
       refine ssR rfl (wn _ rfl) (o_stR n180.at_ (n180.ne rfl n179.at_) W183.bk (by kernel_rfl) rfl (by simp [Value.oneCell'])) W183.bk (fun w190 u191 u191b => ?_)
       have G192 : Gr w w190 := Below.upd G187 l186 u191
       have B193 := B188.upd u191 (Nat.ne_of_lt l184)
       have B194 := B189.upd u191 (Nat.ne_of_lt l185)
       refine wpList_nil ?_
       refine th_n (hK176 _ _ ?_)
       refine wp_seq_k (fun K195 hK195 => ?_)
       refine wp_seq_k (fun K196 hK196 => ?_)
       refine wp_region_lit ?_
       refine sv n180.ok rfl (wn _ rfl) rfl (o_ldR n180.at_ u191b Tryz.underlying55 rfl (by kernel_rfl)) (fun an197 n197 => ?_)
       refine sc n197.ok rfl (wn _ rfl) rfl (o_f1 Tryz.func107 rfl rfl rfl n197.at_) (rdot_p _ _ w190) ?_
       rintro _ w199 ⟨rfl, g200⟩
       refine ⟨_, rfl, fun an198 n198 => ?_⟩
       have G201 := G192.trans g200
       have B202 := B193.gr g200
       have B203 := B194.gr g200
       have B204 := u191b.gr g200
       refine sv n198.ok rfl (wn _ rfl) rfl (o_notD n198.at_) (fun an205 n205 => ?_)
       refine wpList_nil ?_
       refine th_n (hK196 _ _ ?_)
       by_cases c206 : ¬ (dotB (xh177, yh177) = true)
       ·refine wp_cond_true ((n205.at_).trans (congrArg Value.bool (decide_eq_true c206))) ?_
        refine wp_seq_k (fun K207 hK207 => ?_)
        refine wp_region_lit ?_
        refine sv n205.ok rfl (wn _ rfl) rfl (o_as ev_const) (fun an208 n208 => ?_)
        refine wpList_nil ?_
        refine th_n (hK207 _ _ ?_)
        refine wp_ret ?_
        refine th_r ?_
        refine ib_r ?_
        refine th_r ?_
        refine th_r ?_
        refine ib_r ?_
        refine th_r ?_
        have hnd : ¬ dotB (xh177, yh177) = true := c206
        exact ret1 n208.ok rfl (n208.at_) ⟨by rw [chk_dot hl hcv hbI164 (by omega) (badM_dot h177x (by simpa using hnd)) (by omega)], G201⟩
       ·refine wp_cond_false ((n205.at_).trans (congrArg Value.bool (decide_eq_false c206))) ?_
        have hdB : dotB (xh177, yh177) = true := Classical.not_not.1 c206
        obtain ⟨hd1, hd2, hd3, hd4⟩ := (dotB_iff _).1 hdB
        simp only at hd1 hd2 hd3 hd4
        obtain ⟨nh177, hnh177⟩ : ∃ n : Nat, xh177 = (n : Int) := ⟨xh177.toNat, by omega⟩
        subst hnh177
        have hg := gv_cv hbA nh177 (i := i) (by omega)
        have hgl := gv_le hbA i nh177
        refine wp_skip ?_
        refine th_n (hK195 _ _ ?_)
        refine wp_seq_k (fun K209 hK209 => ?_)
        refine wp_seq_k (fun K210 hK210 => ?_)
        refine h_start [] 29 #[false, false, false, false, false, false, false, false, false, false, false, false, false, false, false, false, false, false, false, false, false, false, false, false, false, false, false, false, false] (by kernel_rfl) rfl rfl ?_
        have S211 := Sx.drew [] w199
        have g212 := (Gr.refl w199).drew
        generalize w199.drew = w213 at *
        have G214 := G201.trans g212
        have B215 := B202.gr g212
        have B216 := B203.gr g212
        have B217 := B204.gr g212
        have e218 := n205.ne rfl (n198.ne rfl (n197.ne rfl n180.at_))
        refine h_take (i := 0) (fuel := 28) n205.ok rfl rfl rfl (by kernel_rfl) (by kernel_rfl) (by kernel_rfl) (fun _ _ _ _ _ h => h) (wn _ rfl) (fun x hx => o_fa (z := 1) e218 Tryz.underlying55 rfl (by kernel_rfl) rfl rfl) S211 (fun an219 n219 => ?_)
        refine h_take (i := 1) (fuel := 27) n219.ok rfl rfl rfl (by kernel_rfl) (by kernel_rfl) (by kernel_rfl) (fun _ _ _ _ _ h => h) (wn _ rfl) (fun x hx => o_ld n219.at_ (Tryz.isAgg3 _) ((Sx.bk hx B204 (by simp <;> omega)).cell _ rfl)) S211 (fun an220 n220 => ?_)
        refine h_take (i := 2) (fuel := 26) n220.ok rfl rfl rfl (by kernel_rfl) (by kernel_rfl) (by kernel_rfl) (fun _ _ _ _ _ h => h) (wn _ rfl) (fun x hx => o_fa (z := 1) (n220.ne rfl (n219.ne rfl e218)) Tryz.underlying55 rfl (by kernel_rfl) rfl rfl) S211 (fun an221 n221 => ?_)
        refine h_take (i := 3) (fuel := 25) n221.ok rfl rfl rfl (by kernel_rfl) (by kernel_rfl) (by kernel_rfl) (fun _ _ _ _ _ h => h) (wn _ rfl) (fun x hx => o_ld n221.at_ (Tryz.isAgg3 _) ((Sx.bk hx B204 (by simp <;> omega)).cell _ rfl)) S211 (fun an222 n222 => ?_)
        have e223 := n222.ne rfl (n221.ne rfl (n220.ne rfl (n219.ne rfl (n205.ne rfl (n198.ne rfl (n197.ne rfl (n180.ne rfl (n179.ne rfl (n178.ne rfl (n172.ne rfl s3I164))))))))))
        refine h_take (i := 4) (fuel := 24) n222.ok rfl rfl rfl (by kernel_rfl) (by kernel_rfl) (by kernel_rfl) (fun _ _ _ _ _ h => h) (wn _ rfl) (fun x hx => o_iaA (i := nh177) (s := 1) e223 n222.at_ Tryz.underlying129 (by kernel_rfl) (by omega)) S211 (fun an224 n224 => ?_)
        refine h_take (i := 5) (fuel := 23) n224.ok rfl rfl rfl (by kernel_rfl) (by kernel_rfl) (by kernel_rfl) (fun _ _ _ _ _ h => h) (wn _ rfl) (fun x hx => o_ld n224.at_ (Tryz.isAgg3 _) ((Sx.bk hx B202 (by simp <;> omega)).cell _ (by rw [show 0 + (nh177) * 1 = nh177 by omega]; exact a5_at _ _ (by omega)))) S211 (fun an225 n225 => ?_)
        refine h_take (i := 6) (fuel := 22) n225.ok rfl rfl rfl (by kernel_rfl) (by kernel_rfl) (by kernel_rfl) (fun _ _ _ _ _ h => h) (wn _ rfl) (fun x hx => o_add n225.at_ ev_const rfl (by omega)) S211 (fun an226 n226 => ?_)
        have e227 := n226.ne rfl (n225.ne rfl (n224.ne rfl (n222.ne rfl (n221.ne rfl n220.at_))))
        refine h_take (i := 7) (fuel := 21) n226.ok rfl rfl rfl (by kernel_rfl) (by kernel_rfl) (by kernel_rfl) (fun _ _ _ _ _ h => h) (wn _ rfl) (fun x hx => o_ltI e227 n226.at_) S211 (fun an228 n228 => ?_)
        refine h_take (i := 8) (fuel := 20) n228.ok rfl rfl rfl (by kernel_rfl) (by kernel_rfl) (by kernel_rfl) (fun _ _ _ _ _ h => h) (wn _ rfl) (fun x hx => o_mv n228.at_) S211 (fun an229 n229 => ?_)
        by_cases c230 : yh177 < (((gv V i) (nh177)) + 2)
        ·have e231 := (n229.at_).trans (congrArg Value.bool (decide_eq_true c230))
         refine h_not (i := 9) (fuel := 19) n229.ok rfl rfl rfl (by kernel_rfl) (by kernel_rfl) (by kernel_rfl) (fun _ _ _ _ _ h => h) (wgF rfl (yl 8 true rfl e231) rfl) S211 (fun an233 n233 => ?_)
         refine h_not (i := 10) (fuel := 18) n233.ok rfl rfl rfl (by kernel_rfl) (by kernel_rfl) (by kernel_rfl) (fun _ _ _ _ _ h => h) (wgF rfl (yl 8 true rfl (n233.ne rfl e231)) rfl) S211 (fun an234 n234 => ?_)
         refine h_not (i := 11) (fuel := 17) n234.ok rfl rfl rfl (by kernel_rfl) (by kernel_rfl) (by kernel_rfl) (fun _ _ _ _ _ h => h) (wgF rfl (yl 8 true rfl (n234.ne rfl (n233.ne rfl e231))) rfl) S211 (fun an235 n235 => ?_)
         have e236 := n235.ne rfl (n234.ne rfl (n233.ne rfl e231))
         refine h_not (i := 12) (fuel := 16) n235.ok rfl rfl rfl (by kernel_rfl) (by kernel_rfl) (by kernel_rfl) (fun _ _ _ _ _ h => h) (wgF rfl (yl 8 true rfl e236) rfl) S211 (fun an237 n237 => ?_)
         refine h_not (i := 13) (fuel := 15) n237.ok rfl rfl rfl (by kernel_rfl) (by kernel_rfl) (by kernel_rfl) (fun _ _ _ _ _ h => h) (wgF rfl (yl 8 true rfl (n237.ne rfl e236)) rfl) S211 (fun an238 n238 => ?_)
         refine h_take (i := 14) (fuel := 14) n238.ok rfl rfl rfl (by kernel_rfl) (by kernel_rfl) (by kernel_rfl) (fun _ _ _ _ _ h => h) (wn _ rfl) (fun x hx => o_pkT (n238.ne rfl (n237.ne rfl e236)) ev_const) S211 (fun an239 n239 => ?_)
         refine h_take (i := 15) (fuel := 13) n239.ok rfl rfl rfl (by kernel_rfl) (by kernel_rfl) (by kernel_rfl) (fun _ _ _ _ _ h => h) (wn _ rfl) (fun x hx => o_mv n239.at_) S211 (fun an240 n240 => ?_)
         refine h_not (i := 16) (fuel := 12) n240.ok rfl rfl rfl (by kernel_rfl) (by kernel_rfl) (by kernel_rfl) (fun _ _ _ _ _ h => h) (wgF rfl (yl 15 true rfl n240.at_) rfl) S211 (fun an241 n241 => ?_)
         refine h_not (i := 17) (fuel := 11) n241.ok rfl rfl rfl (by kernel_rfl) (by kernel_rfl) (by kernel_rfl) (fun _ _ _ _ _ h => h) (wgF rfl (yl 15 true rfl (n241.ne rfl n240.at_)) rfl) S211 (fun an242 n242 => ?_)
         refine h_not (i := 18) (fuel := 10) n242.ok rfl rfl rfl (by kernel_rfl) (by kernel_rfl) (by kernel_rfl) (fun _ _ _ _ _ h => h) (wgF rfl (yl 15 true rfl (n242.ne rfl (n241.ne rfl n240.at_))) rfl) S211 (fun an243 n243 => ?_)
         have e244 := n243.ne rfl (n242.ne rfl (n241.ne rfl n240.at_))
         refine h_not (i := 19) (fuel := 9) n243.ok rfl rfl rfl (by kernel_rfl) (by kernel_rfl) (by kernel_rfl) (fun _ _ _ _ _ h => h) (wgF rfl (yl 15 true rfl e244) rfl) S211 (fun an245 n245 => ?_)
         refine h_not (i := 20) (fuel := 8) n245.ok rfl rfl rfl (by kernel_rfl) (by kernel_rfl) (by kernel_rfl) (fun _ _ _ _ _ h => h) (wgF rfl (yl 15 true rfl (n245.ne rfl e244)) rfl) S211 (fun an246 n246 => ?_)
         refine h_not (i := 21) (fuel := 7) n246.ok rfl rfl rfl (by kernel_rfl) (by kernel_rfl) (by kernel_rfl) (fun _ _ _ _ _ h => h) (wgF rfl (yl 15 true rfl (n246.ne rfl (n245.ne rfl e244))) rfl) S211 (fun an247 n247 => ?_)
         refine h_not (i := 22) (fuel := 6) n247.ok rfl rfl rfl (by kernel_rfl) (by kernel_rfl) (by kernel_rfl) (fun _ _ _ _ _ h => h) (wgU rfl (yu 21 rfl n247.at_)) S211 (fun an248 n248 => ?_)
         refine h_not (i := 23) (fuel := 5) n248.ok rfl rfl rfl (by kernel_rfl) (by kernel_rfl) (by kernel_rfl) (fun _ _ _ _ _ h => h) (wgU rfl (yu 21 rfl (n248.ne rfl n247.at_))) S211 (fun an249 n249 => ?_)
         refine h_not (i := 24) (fuel := 4) n249.ok rfl rfl rfl (by kernel_rfl) (by kernel_rfl) (by kernel_rfl) (fun _ _ _ _ _ h => h) (wgU rfl (yu 21 rfl (n249.ne rfl (n248.ne rfl n247.at_)))) S211 (fun an250 n250 => ?_)
         have e251 := n250.ne rfl (n249.ne rfl (n248.ne rfl n247.at_))
         refine h_not (i := 25) (fuel := 3) n250.ok rfl rfl rfl (by kernel_rfl) (by kernel_rfl) (by kernel_rfl) (fun _ _ _ _ _ h => h) (wgU rfl (yu 21 rfl e251)) S211 (fun an252 n252 => ?_)
         refine h_not (i := 26) (fuel := 2) n252.ok rfl rfl rfl (by kernel_rfl) (by kernel_rfl) (by kernel_rfl) (fun _ _ _ _ _ h => h) (wgU rfl (yu 21 rfl (n252.ne rfl e251))) S211 (fun an253 n253 => ?_)
         have e254 := n253.ne rfl (n252.ne rfl (n250.ne rfl (n249.ne rfl (n248.ne rfl (n247.ne rfl (n246.ne rfl (n245.ne rfl e244)))))))
         refine h_not (i := 27) (fuel := 1) n253.ok rfl rfl rfl (by kernel_rfl) (by kernel_rfl) (by kernel_rfl) (fun _ _ _ _ _ h => h) (wgF rfl (yl 15 true rfl e254) rfl) S211 (fun an255 n255 => ?_)
         refine h_take (i := 28) (fuel := 0) n255.ok rfl rfl rfl (by kernel_rfl) (by kernel_rfl) (by kernel_rfl) (fun _ _ _ _ _ h => h) (wn _ rfl) (fun x hx => o_pkT (n255.ne rfl e254) ev_const) S211 (fun an256 n256 => ?_)
         refine wpAnyH_done (by kernel_rfl) ?_ _
         refine th_n (hK210 _ _ ?_)
         refine wp_cond_true (n256.at_) ?_
         refine wp_seq_k (fun K257 hK257 => ?_)
         refine wp_region_lit ?_
         refine sv n256.ok rfl (wn _ rfl) rfl (o_as ev_const) (fun an258 n258 => ?_)
         refine wpList_nil ?_
         refine th_n (hK257 _ _ ?_)
         refine wp_ret ?_
         refine th_r ?_
         refine ib_r ?_
         refine th_r ?_
         refine th_r ?_
         refine ib_r ?_
         refine th_r ?_
         have hwhy : yh177 < (cv (natsI V) (nh177 : Int).toNat : Int) + 2 ∨ (0 < k ∧ ¬ ltI (M.getD (k - 1) (0, 0)) ((nh177 : Int), yh177)) := by
          rw [Int.toNat_natCast, ← hg]
          by_cases q : yh177 < gv V i nh177 + 2
          ·exact .inl q
          ·exact .inr (lastD_lt hlaI164 (by omega) (by omega))
         exact ret1 n258.ok rfl (n258.at_) ⟨by rw [chk_dot hl hcv hbI164 (by omega) (badM_form h177x hdB hwhy) (by omega)], G214⟩
        ·have e259 := (n229.at_).trans (congrArg Value.bool (decide_eq_false c230))
         have e261 := n229.ne rfl (n228.ne rfl (n226.ne rfl (n225.ne rfl (n224.ne rfl (n222.ne rfl (n221.ne rfl (n220.ne rfl (n219.ne rfl e218))))))))
         refine h_take (i := 9) (fuel := 19) n229.ok rfl rfl rfl (by kernel_rfl) (by kernel_rfl) (by kernel_rfl) (fun _ _ _ _ _ h => h) (wgT rfl (yl 8 false rfl e259) rfl) (fun x hx => o_fa (z := 1) e261 Tryz.underlying55 rfl (by kernel_rfl) rfl rfl) S211 (fun an262 n262 => ?_)
         refine h_take (i := 10) (fuel := 18) n262.ok rfl rfl rfl (by kernel_rfl) (by kernel_rfl) (by kernel_rfl) (fun _ _ _ _ _ h => h) (wgT rfl (yl 8 false rfl (n262.ne rfl e259)) rfl) (fun x hx => o_ld n262.at_ (Tryz.isAgg3 _) ((Sx.bk hx B204 (by simp <;> omega)).cell _ rfl)) S211 (fun an263 n263 => ?_)
         have e264 := n263.ne rfl (n262.ne rfl (n229.ne rfl (n228.ne rfl (n226.ne rfl (n225.ne rfl (n224.ne rfl (n222.ne rfl (n221.ne rfl (n220.ne rfl (n219.ne rfl (n205.ne rfl (n198.ne rfl (n197.ne rfl (n180.ne rfl (n179.ne rfl (n178.ne rfl (n172.ne rfl s7I164)))))))))))))))))
         refine h_take (i := 11) (fuel := 17) n263.ok rfl rfl rfl (by kernel_rfl) (by kernel_rfl) (by kernel_rfl) (fun _ _ _ _ _ h => h) (wgT rfl (yl 8 false rfl (n263.ne rfl (n262.ne rfl e259))) rfl) (fun x hx => o_fa (z := 1) e264 Tryz.underlying55 rfl (by kernel_rfl) rfl rfl) S211 (fun an265 n265 => ?_)
         have e266 := n265.ne rfl (n263.ne rfl (n262.ne rfl e259))
         refine h_take (i := 12) (fuel := 16) n265.ok rfl rfl rfl (by kernel_rfl) (by kernel_rfl) (by kernel_rfl) (fun _ _ _ _ _ h => h) (wgT rfl (yl 8 false rfl e266) rfl) (fun x hx => o_ld n265.at_ (Tryz.isAgg3 _) ((Sx.bk hx B203 (by simp <;> omega)).cell _ rfl)) S211 (fun an267 n267 => ?_)
         refine h_take (i := 13) (fuel := 15) n267.ok rfl rfl rfl (by kernel_rfl) (by kernel_rfl) (by kernel_rfl) (fun _ _ _ _ _ h => h) (wgT rfl (yl 8 false rfl (n267.ne rfl e266)) rfl) (fun x hx => o_ltI (n267.ne rfl (n265.ne rfl n263.at_)) n267.at_) S211 (fun an268 n268 => ?_)
         refine h_take (i := 14) (fuel := 14) n268.ok rfl rfl rfl (by kernel_rfl) (by kernel_rfl) (by kernel_rfl) (fun _ _ _ _ _ h => h) (wn _ rfl) (fun x hx => o_pkF (n268.ne rfl (n267.ne rfl e266)) n268.at_) S211 (fun an269 n269 => ?_)
         refine h_take (i := 15) (fuel := 13) n269.ok rfl rfl rfl (by kernel_rfl) (by kernel_rfl) (by kernel_rfl) (fun _ _ _ _ _ h => h) (wn _ rfl) (fun x hx => o_mv n269.at_) S211 (fun an270 n270 => ?_)
         by_cases c271 : (nh177 : Int) < la
         ·have e272 := (n270.at_).trans (congrArg Value.bool (decide_eq_true c271))
          refine h_not (i := 16) (fuel := 12) n270.ok rfl rfl rfl (by kernel_rfl) (by kernel_rfl) (by kernel_rfl) (fun _ _ _ _ _ h => h) (wgF rfl (yl 15 true rfl e272) rfl) S211 (fun an275 n275 => ?_)
          refine h_not (i := 17) (fuel := 11) n275.ok rfl rfl rfl (by kernel_rfl) (by kernel_rfl) (by kernel_rfl) (fun _ _ _ _ _ h => h) (wgF rfl (yl 15 true rfl (n275.ne rfl e272)) rfl) S211 (fun an276 n276 => ?_)
          refine h_not (i := 18) (fuel := 10) n276.ok rfl rfl rfl (by kernel_rfl) (by kernel_rfl) (by kernel_rfl) (fun _ _ _ _ _ h => h) (wgF rfl (yl 15 true rfl (n276.ne rfl (n275.ne rfl e272))) rfl) S211 (fun an277 n277 => ?_)
          have e278 := n277.ne rfl (n276.ne rfl (n275.ne rfl e272))
          refine h_not (i := 19) (fuel := 9) n277.ok rfl rfl rfl (by kernel_rfl) (by kernel_rfl) (by kernel_rfl) (fun _ _ _ _ _ h => h) (wgF rfl (yl 15 true rfl e278) rfl) S211 (fun an279 n279 => ?_)
          refine h_not (i := 20) (fuel := 8) n279.ok rfl rfl rfl (by kernel_rfl) (by kernel_rfl) (by kernel_rfl) (fun _ _ _ _ _ h => h) (wgF rfl (yl 15 true rfl (n279.ne rfl e278)) rfl) S211 (fun an280 n280 => ?_)
          refine h_not (i := 21) (fuel := 7) n280.ok rfl rfl rfl (by kernel_rfl) (by kernel_rfl) (by kernel_rfl) (fun _ _ _ _ _ h => h) (wgF rfl (yl 15 true rfl (n280.ne rfl (n279.ne rfl e278))) rfl) S211 (fun an281 n281 => ?_)
          refine h_not (i := 22) (fuel := 6) n281.ok rfl rfl rfl (by kernel_rfl) (by kernel_rfl) (by kernel_rfl) (fun _ _ _ _ _ h => h) (wgU rfl (yu 21 rfl n281.at_)) S211 (fun an282 n282 => ?_)
          refine h_not (i := 23) (fuel := 5) n282.ok rfl rfl rfl (by kernel_rfl) (by kernel_rfl) (by kernel_rfl) (fun _ _ _ _ _ h => h) (wgU rfl (yu 21 rfl (n282.ne rfl n281.at_))) S211 (fun an283 n283 => ?_)
          refine h_not (i := 24) (fuel := 4) n283.ok rfl rfl rfl (by kernel_rfl) (by kernel_rfl) (by kernel_rfl) (fun _ _ _ _ _ h => h) (wgU rfl (yu 21 rfl (n283.ne rfl (n282.ne rfl n281.at_)))) S211 (fun an284 n284 => ?_)
          have e285 := n284.ne rfl (n283.ne rfl (n282.ne rfl n281.at_))
          refine h_not (i := 25) (fuel := 3) n284.ok rfl rfl rfl (by kernel_rfl) (by kernel_rfl) (by kernel_rfl) (fun _ _ _ _ _ h => h) (wgU rfl (yu 21 rfl e285)) S211 (fun an286 n286 => ?_)
          refine h_not (i := 26) (fuel := 2) n286.ok rfl rfl rfl (by kernel_rfl) (by kernel_rfl) (by kernel_rfl) (fun _ _ _ _ _ h => h) (wgU rfl (yu 21 rfl (n286.ne rfl e285))) S211 (fun an287 n287 => ?_)
          have e288 := n287.ne rfl (n286.ne rfl (n284.ne rfl (n283.ne rfl (n282.ne rfl (n281.ne rfl (n280.ne rfl (n279.ne rfl e278)))))))
          refine h_not (i := 27) (fuel := 1) n287.ok rfl rfl rfl (by kernel_rfl) (by kernel_rfl) (by kernel_rfl) (fun _ _ _ _ _ h => h) (wgF rfl (yl 15 true rfl e288) rfl) S211 (fun an289 n289 => ?_)
          refine h_take (i := 28) (fuel := 0) n289.ok rfl rfl rfl (by kernel_rfl) (by kernel_rfl) (by kernel_rfl) (fun _ _ _ _ _ h => h) (wn _ rfl) (fun x hx => o_pkT (n289.ne rfl e288) ev_const) S211 (fun an290 n290 => ?_)
          refine wpAnyH_done (by kernel_rfl) ?_ _
          refine th_n (hK210 _ _ ?_)
          refine wp_cond_true (n290.at_) ?_
          refine wp_seq_k (fun K291 hK291 => ?_)
          refine wp_region_lit ?_
          refine sv n290.ok rfl (wn _ rfl) rfl (o_as ev_const) (fun an292 n292 => ?_)
          refine wpList_nil ?_
          refine th_n (hK291 _ _ ?_)
          refine wp_ret ?_
          refine th_r ?_
          refine ib_r ?_
          refine th_r ?_
          refine th_r ?_
          refine ib_r ?_
          refine th_r ?_
          have hwhy : yh177 < (cv (natsI V) (nh177 : Int).toNat : Int) + 2 ∨ (0 < k ∧ ¬ ltI (M.getD (k - 1) (0, 0)) ((nh177 : Int), yh177)) := by
           rw [Int.toNat_natCast, ← hg]
           by_cases q : yh177 < gv V i nh177 + 2
           ·exact .inl q
           ·exact .inr (lastD_lt hlaI164 (by omega) (by omega))
          exact ret1 n292.ok rfl (n292.at_) ⟨by rw [chk_dot hl hcv hbI164 (by omega) (badM_form h177x hdB hwhy) (by omega)], G214⟩
         ·have e293 := (n270.at_).trans (congrArg Value.bool (decide_eq_false c271))
          have e296 := n270.ne rfl (n269.ne rfl (n268.ne rfl (n267.ne rfl (n265.ne rfl (n263.ne rfl (n262.ne rfl e261))))))
          refine h_take (i := 16) (fuel := 12) n270.ok rfl rfl rfl (by kernel_rfl) (by kernel_rfl) (by kernel_rfl) (fun _ _ _ _ _ h => h) (wgT rfl (yl 15 false rfl e293) rfl) (fun x hx => o_fa (z := 1) e296 Tryz.underlying55 rfl (by kernel_rfl) rfl rfl) S211 (fun an297 n297 => ?_)
          refine h_take (i := 17) (fuel := 11) n297.ok rfl rfl rfl (by kernel_rfl) (by kernel_rfl) (by kernel_rfl) (fun _ _ _ _ _ h => h) (wgT rfl (yl 15 false rfl (n297.ne rfl e293)) rfl) (fun x hx => o_ld n297.at_ (Tryz.isAgg3 _) ((Sx.bk hx B204 (by simp <;> omega)).cell _ rfl)) S211 (fun an298 n298 => ?_)
          have e299 := n298.ne rfl (n297.ne rfl (n270.ne rfl (n269.ne rfl (n268.ne rfl (n267.ne rfl (n265.ne rfl e264))))))
          refine h_take (i := 18) (fuel := 10) n298.ok rfl rfl rfl (by kernel_rfl) (by kernel_rfl) (by kernel_rfl) (fun _ _ _ _ _ h => h) (wgT rfl (yl 15 false rfl (n298.ne rfl (n297.ne rfl e293))) rfl) (fun x hx => o_fa (z := 1) e299 Tryz.underlying55 rfl (by kernel_rfl) rfl rfl) S211 (fun an300 n300 => ?_)
          have e301 := n300.ne rfl (n298.ne rfl (n297.ne rfl e293))
          refine h_take (i := 19) (fuel := 9) n300.ok rfl rfl rfl (by kernel_rfl) (by kernel_rfl) (by kernel_rfl) (fun _ _ _ _ _ h => h) (wgT rfl (yl 15 false rfl e301) rfl) (fun x hx => o_ld n300.at_ (Tryz.isAgg3 _) ((Sx.bk hx B203 (by simp <;> omega)).cell _ rfl)) S211 (fun an302 n302 => ?_)
          refine h_take (i := 20) (fuel := 8) n302.ok rfl rfl rfl (by kernel_rfl) (by kernel_rfl) (by kernel_rfl) (fun _ _ _ _ _ h => h) (wgT rfl (yl 15 false rfl (n302.ne rfl e301)) rfl) (fun x hx => o_eqI (n302.ne rfl (n300.ne rfl n298.at_)) n302.at_) S211 (fun an303 n303 => ?_)
          refine h_take (i := 21) (fuel := 7) n303.ok rfl rfl rfl (by kernel_rfl) (by kernel_rfl) (by kernel_rfl) (fun _ _ _ _ _ h => h) (wgT rfl (yl 15 false rfl (n303.ne rfl (n302.ne rfl e301))) rfl) (fun x hx => o_mv n303.at_) S211 (fun an304 n304 => ?_)
          by_cases c305 : (nh177 : Int) = la
          ·have e306 := (n304.at_).trans (congrArg Value.bool (decide_eq_true c305))
           have e308 := n304.ne rfl (n303.ne rfl (n302.ne rfl (n300.ne rfl (n298.ne rfl (n297.ne rfl e296)))))
           refine h_take (i := 22) (fuel := 6) n304.ok rfl rfl rfl (by kernel_rfl) (by kernel_rfl) (by kernel_rfl) (fun _ _ _ _ _ h => h) (wgT rfl (yl 21 true rfl e306) rfl) (fun x hx => o_fa (z := 1) e308 Tryz.underlying55 rfl (by kernel_rfl) rfl rfl) S211 (fun an309 n309 => ?_)
           refine h_take (i := 23) (fuel := 5) n309.ok rfl rfl rfl (by kernel_rfl) (by kernel_rfl) (by kernel_rfl) (fun _ _ _ _ _ h => h) (wgT rfl (yl 21 true rfl (n309.ne rfl e306)) rfl) (fun x hx => o_ld n309.at_ (Tryz.isAgg3 _) ((Sx.bk hx B204 (by simp <;> omega)).cell _ rfl)) S211 (fun an310 n310 => ?_)
           have e311 := n310.ne rfl (n309.ne rfl (n304.ne rfl (n303.ne rfl (n302.ne rfl (n300.ne rfl e299)))))
           refine h_take (i := 24) (fuel := 4) n310.ok rfl rfl rfl (by kernel_rfl) (by kernel_rfl) (by kernel_rfl) (fun _ _ _ _ _ h => h) (wgT rfl (yl 21 true rfl (n310.ne rfl (n309.ne rfl e306))) rfl) (fun x hx => o_fa (z := 1) e311 Tryz.underlying55 rfl (by kernel_rfl) rfl rfl) S211 (fun an312 n312 => ?_)
           have e313 := n312.ne rfl (n310.ne rfl (n309.ne rfl e306))
           refine h_take (i := 25) (fuel := 3) n312.ok rfl rfl rfl (by kernel_rfl) (by kernel_rfl) (by kernel_rfl) (fun _ _ _ _ _ h => h) (wgT rfl (yl 21 true rfl e313) rfl) (fun x hx => o_ld n312.at_ (Tryz.isAgg3 _) ((Sx.bk hx B203 (by simp <;> omega)).cell _ rfl)) S211 (fun an314 n314 => ?_)
           refine h_take (i := 26) (fuel := 2) n314.ok rfl rfl rfl (by kernel_rfl) (by kernel_rfl) (by kernel_rfl) (fun _ _ _ _ _ h => h) (wgT rfl (yl 21 true rfl (n314.ne rfl e313)) rfl) (fun x hx => o_leI (n314.ne rfl (n312.ne rfl n310.at_)) n314.at_) S211 (fun an315 n315 => ?_)
           have e316 := n315.ne rfl (n314.ne rfl (n312.ne rfl (n310.ne rfl (n309.ne rfl (n304.ne rfl (n303.ne rfl (n302.ne rfl e301)))))))
           refine h_take (i := 27) (fuel := 1) n315.ok rfl rfl rfl (by kernel_rfl) (by kernel_rfl) (by kernel_rfl) (fun _ _ _ _ _ h => h) (wgT rfl (yl 15 false rfl e316) rfl) (fun x hx => o_pkT (n315.ne rfl (n314.ne rfl e313)) n315.at_) S211 (fun an317 n317 => ?_)
           refine h_take (i := 28) (fuel := 0) n317.ok rfl rfl rfl (by kernel_rfl) (by kernel_rfl) (by kernel_rfl) (fun _ _ _ _ _ h => h) (wn _ rfl) (fun x hx => o_pkF (n317.ne rfl e316) n317.at_) S211 (fun an318 n318 => ?_)
           refine wpAnyH_done (by kernel_rfl) ?_ _
           refine th_n (hK210 _ _ ?_)
           by_cases c319 : yh177 ≤ lb
           ·refine wp_cond_true ((n318.at_).trans (congrArg Value.bool (decide_eq_true c319))) ?_
            refine wp_seq_k (fun K320 hK320 => ?_)
            refine wp_region_lit ?_
            refine sv n318.ok rfl (wn _ rfl) rfl (o_as ev_const) (fun an321 n321 => ?_)
            refine wpList_nil ?_
            refine th_n (hK320 _ _ ?_)
            refine wp_ret ?_
            refine th_r ?_
            refine ib_r ?_
            refine th_r ?_
            refine th_r ?_
            refine ib_r ?_
            refine th_r ?_
            have hwhy : yh177 < (cv (natsI V) (nh177 : Int).toNat : Int) + 2 ∨ (0 < k ∧ ¬ ltI (M.getD (k - 1) (0, 0)) ((nh177 : Int), yh177)) := by
             rw [Int.toNat_natCast, ← hg]
             by_cases q : yh177 < gv V i nh177 + 2
             ·exact .inl q
             ·exact .inr (lastD_lt hlaI164 (by omega) (by omega))
            exact ret1 n321.ok rfl (n321.at_) ⟨by rw [chk_dot hl hcv hbI164 (by omega) (badM_form h177x hdB hwhy) (by omega)], G214⟩
           ·refine wp_cond_false ((n318.at_).trans (congrArg Value.bool (decide_eq_false c319))) ?_
            refine wp_skip ?_
            refine th_n (hK209 _ _ ?_)
            refine wp_region_lit ?_
            have e322 := n318.ne rfl (n317.ne rfl (n315.ne rfl (n314.ne rfl (n312.ne rfl (n310.ne rfl (n309.ne rfl e308))))))
            refine sv n318.ok rfl (wn _ rfl) rfl (o_ldR e322 B217 Tryz.underlying55 rfl (by kernel_rfl)) (fun an323 n323 => ?_)
            have e324 := n323.ne rfl (n318.ne rfl (n317.ne rfl (n315.ne rfl (n314.ne rfl (n312.ne rfl e311)))))
            refine ssR rfl (wn _ rfl) (o_stR e324 n323.at_ B216 (by kernel_rfl) rfl (by simp [Value.oneCell'])) B216 (fun w325 u326 u326b => ?_)
            have G327 : Gr w w325 := Below.upd G214 l148 u326
            have B328 := B215.upd u326 (Nat.ne_of_lt l147)
            refine wpList_nil ?_
            refine ib_n ?_
            refine th_n (hK175 _ _ ?_)
            refine wp_region_lit ?_
            have e330 := n323.ne rfl (n318.ne rfl (n317.ne rfl (n315.ne rfl (n314.ne rfl (n312.ne rfl (n310.ne rfl (n309.ne rfl (n304.ne rfl (n303.ne rfl (n302.ne rfl (n300.ne rfl (n298.ne rfl (n297.ne rfl (n270.ne rfl (n269.ne rfl (n268.ne rfl (n267.ne rfl (n265.ne rfl (n263.ne rfl (n262.ne rfl (n229.ne rfl (n228.ne rfl (n226.ne rfl (n225.ne rfl (n224.ne rfl (n222.ne rfl (n221.ne rfl (n220.ne rfl (n219.ne rfl (n205.ne rfl (n198.ne rfl (n197.ne rfl (n180.ne rfl (n179.ne rfl (n178.ne rfl (n172.ne rfl s54I164))))))))))))))))))))))))))))))))))))
            refine sv n323.ok rfl (wn _ rfl) rfl (o_add (r := ((k + 1 : Nat) : Int)) e330 ev_const (by omega) (by omega)) (fun an331 n331 => ?_)
            refine sv n331.ok rfl (wn _ rfl) rfl (o_mv n331.at_) (fun an332 n332 => ?_)
            refine wpList_nil ?_
            have hok : badM (natsI V) M k = 0 := badM_ok h177x hdB (by
             rintro (q | q)
             ·rw [Int.toNat_natCast, ← hg] at q; omega
             ·exact lastD_ge hlaI164 (by omega) q)
            have e333 := n332.ne rfl (n331.ne rfl (n323.ne rfl (n318.ne rfl (n317.ne rfl (n315.ne rfl (n314.ne rfl (n312.ne rfl (n310.ne rfl (n309.ne rfl (n304.ne rfl (n303.ne rfl (n302.ne rfl (n300.ne rfl (n298.ne rfl (n297.ne rfl (n270.ne rfl (n269.ne rfl (n268.ne rfl (n267.ne rfl (n265.ne rfl (n263.ne rfl (n262.ne rfl (n229.ne rfl (n228.ne rfl (n226.ne rfl (n225.ne rfl (n224.ne rfl (n222.ne rfl (n221.ne rfl (n220.ne rfl (n219.ne rfl (n205.ne rfl (n198.ne rfl (n197.ne rfl (n180.ne rfl (n179.ne rfl (n178.ne rfl (n172.ne rfl s2I164))))))))))))))))))))))))))))))))))))))
            have e334 := n332.ne rfl (n331.ne rfl (n323.ne rfl (n318.ne rfl (n317.ne rfl (n315.ne rfl (n314.ne rfl (n312.ne rfl (n310.ne rfl (n309.ne rfl (n304.ne rfl (n303.ne rfl (n302.ne rfl (n300.ne rfl (n298.ne rfl (n297.ne rfl (n270.ne rfl (n269.ne rfl (n268.ne rfl (n267.ne rfl (n265.ne rfl (n263.ne rfl (n262.ne rfl (n229.ne rfl (n228.ne rfl (n226.ne rfl (n225.ne rfl (n224.ne rfl e223)))))))))))))))))))))))))))
            have e335 := n332.ne rfl (n331.ne rfl (n323.ne rfl (n318.ne rfl (n317.ne rfl (n315.ne rfl (n314.ne rfl (n312.ne rfl (n310.ne rfl (n309.ne rfl (n304.ne rfl (n303.ne rfl (n302.ne rfl (n300.ne rfl (n298.ne rfl (n297.ne rfl (n270.ne rfl (n269.ne rfl (n268.ne rfl (n267.ne rfl (n265.ne rfl (n263.ne rfl (n262.ne rfl (n229.ne rfl (n228.ne rfl (n226.ne rfl (n225.ne rfl (n224.ne rfl (n222.ne rfl (n221.ne rfl (n220.ne rfl (n219.ne rfl (n205.ne rfl (n198.ne rfl (n197.ne rfl (n180.ne rfl (n179.ne rfl (n178.ne rfl (n172.ne rfl s52I164))))))))))))))))))))))))))))))))))))))
            have e336 := n332.ne rfl (n331.ne rfl (n323.ne rfl (n318.ne rfl (n317.ne rfl (n315.ne rfl (n314.ne rfl (n312.ne rfl (n310.ne rfl (n309.ne rfl (n304.ne rfl (n303.ne rfl (n302.ne rfl (n300.ne rfl (n298.ne rfl (n297.ne rfl (n270.ne rfl (n269.ne rfl (n268.ne rfl (n267.ne rfl (n265.ne rfl (n263.ne rfl (n262.ne rfl (n229.ne rfl (n228.ne rfl (n226.ne rfl (n225.ne rfl (n224.ne rfl (n222.ne rfl (n221.ne rfl (n220.ne rfl (n219.ne rfl (n205.ne rfl (n198.ne rfl (n197.ne rfl (n180.ne rfl (n179.ne rfl (n178.ne rfl (n172.ne rfl s53I164))))))))))))))))))))))))))))))))))))))
            exact th_n (hKI164 _ _ _ (by omega) ⟨k + 1, nh177, yh177, rfl, n332.ok, G327, e333, e334, (n332.ne rfl (n331.ne rfl e324)), e335, e336, n332.at_, B328, u326b, by omega, all_up hbI164 hok, .inr ⟨by omega, h177x⟩⟩)
          ·have e337 := (n304.at_).trans (congrArg Value.bool (decide_eq_false c305))
           refine h_not (i := 22) (fuel := 6) n304.ok rfl rfl rfl (by kernel_rfl) (by kernel_rfl) (by kernel_rfl) (fun _ _ _ _ _ h => h) (wgF rfl (yl 21 false rfl e337) rfl) S211 (fun an339 n339 => ?_)
           refine h_not (i := 23) (fuel := 5) n339.ok rfl rfl rfl (by kernel_rfl) (by kernel_rfl) (by kernel_rfl) (fun _ _ _ _ _ h => h) (wgF rfl (yl 21 false rfl (n339.ne rfl e337)) rfl) S211 (fun an340 n340 => ?_)
           refine h_not (i := 24) (fuel := 4) n340.ok rfl rfl rfl (by kernel_rfl) (by kernel_rfl) (by kernel_rfl) (fun _ _ _ _ _ h => h) (wgF rfl (yl 21 false rfl (n340.ne rfl (n339.ne rfl e337))) rfl) S211 (fun an341 n341 => ?_)
           have e342 := n341.ne rfl (n340.ne rfl (n339.ne rfl e337))
           refine h_not (i := 25) (fuel := 3) n341.ok rfl rfl rfl (by kernel_rfl) (by kernel_rfl) (by kernel_rfl) (fun _ _ _ _ _ h => h) (wgF rfl (yl 21 false rfl e342) rfl) S211 (fun an343 n343 => ?_)
           refine h_not (i := 26) (fuel := 2) n343.ok rfl rfl rfl (by kernel_rfl) (by kernel_rfl) (by kernel_rfl) (fun _ _ _ _ _ h => h) (wgF rfl (yl 21 false rfl (n343.ne rfl e342)) rfl) S211 (fun an344 n344 => ?_)
           have e345 := n344.ne rfl (n343.ne rfl (n341.ne rfl (n340.ne rfl (n339.ne rfl (n304.ne rfl (n303.ne rfl (n302.ne rfl e301)))))))
           refine h_take (i := 27) (fuel := 1) n344.ok rfl rfl rfl (by kernel_rfl) (by kernel_rfl) (by kernel_rfl) (fun _ _ _ _ _ h => h) (wgT rfl (yl 15 false rfl e345) rfl) (fun x hx => o_pkF (n344.ne rfl (n343.ne rfl e342)) ev_const) S211 (fun an346 n346 => ?_)
           refine h_take (i := 28) (fuel := 0) n346.ok rfl rfl rfl (by kernel_rfl) (by kernel_rfl) (by kernel_rfl) (fun _ _ _ _ _ h => h) (wn _ rfl) (fun x hx => o_pkF (n346.ne rfl e345) n346.at_) S211 (fun an347 n347 => ?_)
           refine wpAnyH_done (by kernel_rfl) ?_ _
           refine th_n (hK210 _ _ ?_)
           refine wp_cond_false (n347.at_) ?_
           refine wp_skip ?_
           refine th_n (hK209 _ _ ?_)
           refine wp_region_lit ?_
           have e348 := n347.ne rfl (n346.ne rfl (n344.ne rfl (n343.ne rfl (n341.ne rfl (n340.ne rfl (n339.ne rfl (n304.ne rfl (n303.ne rfl (n302.ne rfl (n300.ne rfl (n298.ne rfl (n297.ne rfl e296))))))))))))
           refine sv n347.ok rfl (wn _ rfl) rfl (o_ldR e348 B217 Tryz.underlying55 rfl (by kernel_rfl)) (fun an349 n349 => ?_)
           have e350 := n349.ne rfl (n347.ne rfl (n346.ne rfl (n344.ne rfl (n343.ne rfl (n341.ne rfl (n340.ne rfl (n339.ne rfl (n304.ne rfl (n303.ne rfl (n302.ne rfl (n300.ne rfl e299)))))))))))
           refine ssR rfl (wn _ rfl) (o_stR e350 n349.at_ B216 (by kernel_rfl) rfl (by simp [Value.oneCell'])) B216 (fun w351 u352 u352b => ?_)
           have G353 : Gr w w351 := Below.upd G214 l148 u352
           have B354 := B215.upd u352 (Nat.ne_of_lt l147)
           refine wpList_nil ?_
           refine ib_n ?_
           refine th_n (hK175 _ _ ?_)
           refine wp_region_lit ?_
           have e356 := n349.ne rfl (n347.ne rfl (n346.ne rfl (n344.ne rfl (n343.ne rfl (n341.ne rfl (n340.ne rfl (n339.ne rfl (n304.ne rfl (n303.ne rfl (n302.ne rfl (n300.ne rfl (n298.ne rfl (n297.ne rfl (n270.ne rfl (n269.ne rfl (n268.ne rfl (n267.ne rfl (n265.ne rfl (n263.ne rfl (n262.ne rfl (n229.ne rfl (n228.ne rfl (n226.ne rfl (n225.ne rfl (n224.ne rfl (n222.ne rfl (n221.ne rfl (n220.ne rfl (n219.ne rfl (n205.ne rfl (n198.ne rfl (n197.ne rfl (n180.ne rfl (n179.ne rfl (n178.ne rfl (n172.ne rfl s54I164))))))))))))))))))))))))))))))))))))
           refine sv n349.ok rfl (wn _ rfl) rfl (o_add (r := ((k + 1 : Nat) : Int)) e356 ev_const (by omega) (by omega)) (fun an357 n357 => ?_)
           refine sv n357.ok rfl (wn _ rfl) rfl (o_mv n357.at_) (fun an358 n358 => ?_)
           refine wpList_nil ?_
           have hok : badM (natsI V) M k = 0 := badM_ok h177x hdB (by
            rintro (q | q)
            ·rw [Int.toNat_natCast, ← hg] at q; omega
            ·exact lastD_ge hlaI164 (by omega) q)
           have e359 := n358.ne rfl (n357.ne rfl (n349.ne rfl (n347.ne rfl (n346.ne rfl (n344.ne rfl (n343.ne rfl (n341.ne rfl (n340.ne rfl (n339.ne rfl (n304.ne rfl (n303.ne rfl (n302.ne rfl (n300.ne rfl (n298.ne rfl (n297.ne rfl (n270.ne rfl (n269.ne rfl (n268.ne rfl (n267.ne rfl (n265.ne rfl (n263.ne rfl (n262.ne rfl (n229.ne rfl (n228.ne rfl (n226.ne rfl (n225.ne rfl (n224.ne rfl (n222.ne rfl (n221.ne rfl (n220.ne rfl (n219.ne rfl (n205.ne rfl (n198.ne rfl (n197.ne rfl (n180.ne rfl (n179.ne rfl (n178.ne rfl (n172.ne rfl s2I164))))))))))))))))))))))))))))))))))))))
           have e360 := n358.ne rfl (n357.ne rfl (n349.ne rfl (n347.ne rfl (n346.ne rfl (n344.ne rfl (n343.ne rfl (n341.ne rfl (n340.ne rfl (n339.ne rfl (n304.ne rfl (n303.ne rfl (n302.ne rfl (n300.ne rfl (n298.ne rfl (n297.ne rfl (n270.ne rfl (n269.ne rfl (n268.ne rfl (n267.ne rfl (n265.ne rfl (n263.ne rfl (n262.ne rfl (n229.ne rfl (n228.ne rfl (n226.ne rfl (n225.ne rfl (n224.ne rfl e223)))))))))))))))))))))))))))
           have e361 := n358.ne rfl (n357.ne rfl (n349.ne rfl (n347.ne rfl (n346.ne rfl (n344.ne rfl (n343.ne rfl (n341.ne rfl (n340.ne rfl (n339.ne rfl (n304.ne rfl (n303.ne rfl (n302.ne rfl (n300.ne rfl (n298.ne rfl (n297.ne rfl (n270.ne rfl (n269.ne rfl (n268.ne rfl (n267.ne rfl (n265.ne rfl (n263.ne rfl (n262.ne rfl (n229.ne rfl (n228.ne rfl (n226.ne rfl (n225.ne rfl (n224.ne rfl (n222.ne rfl (n221.ne rfl (n220.ne rfl (n219.ne rfl (n205.ne rfl (n198.ne rfl (n197.ne rfl (n180.ne rfl (n179.ne rfl (n178.ne rfl (n172.ne rfl s52I164))))))))))))))))))))))))))))))))))))))
           have e362 := n358.ne rfl (n357.ne rfl (n349.ne rfl (n347.ne rfl (n346.ne rfl (n344.ne rfl (n343.ne rfl (n341.ne rfl (n340.ne rfl (n339.ne rfl (n304.ne rfl (n303.ne rfl (n302.ne rfl (n300.ne rfl (n298.ne rfl (n297.ne rfl (n270.ne rfl (n269.ne rfl (n268.ne rfl (n267.ne rfl (n265.ne rfl (n263.ne rfl (n262.ne rfl (n229.ne rfl (n228.ne rfl (n226.ne rfl (n225.ne rfl (n224.ne rfl (n222.ne rfl (n221.ne rfl (n220.ne rfl (n219.ne rfl (n205.ne rfl (n198.ne rfl (n197.ne rfl (n180.ne rfl (n179.ne rfl (n178.ne rfl (n172.ne rfl s53I164))))))))))))))))))))))))))))))))))))))
           exact th_n (hKI164 _ _ _ (by omega) ⟨k + 1, nh177, yh177, rfl, n358.ok, G353, e359, e360, (n358.ne rfl (n357.ne rfl e350)), e361, e362, n358.at_, B354, u352b, by omega, all_up hbI164 hok, .inr ⟨by omega, h177x⟩⟩)
      ·refine wp_cond_false ((n172.at_).trans (congrArg Value.bool (decide_eq_false c174))) ?_
       refine wp_exit ?_
       refine th_x ?_
       refine th_x ?_
       refine ib_x ?_
       refine th_n (hK157 _ _ ?_)
       refine wp_seq_k (fun K363 hK363 => ?_)
       refine wp_region_lit ?_
       refine sv n172.ok rfl (wn _ rfl) rfl (o_as ev_const) (fun an364 n364 => ?_)
       refine wpList_nil ?_
       refine th_n (hK363 _ _ ?_)
       refine wp_ret ?_
       exact ret1 n364.ok rfl (n364.at_) ⟨by rw [chk_ok hl hcv (fun j hj => hbI164 j (by omega))], GI164⟩
    ·have e365 := (n120.at_).trans (congrArg Value.bool (decide_eq_false c121))
     refine sn n120.ok rfl (wgF rfl (yl 2 false rfl e365) rfl) rfl (fun an367 n367 => ?_)
     refine sn n367.ok rfl (wgF rfl (yl 2 false rfl (n367.ne rfl e365)) rfl) rfl (fun an368 n368 => ?_)
     refine sn n368.ok rfl (wgF rfl (yl 2 false rfl (n368.ne rfl (n367.ne rfl e365))) rfl) rfl (fun an369 n369 => ?_)
     have e370 := n369.ne rfl (n368.ne rfl (n367.ne rfl e365))
     refine sn n369.ok rfl (wgF rfl (yl 2 false rfl e370) rfl) rfl (fun an371 n371 => ?_)
     refine sn n371.ok rfl (wgF rfl (yl 2 false rfl (n371.ne rfl e370)) rfl) rfl (fun an372 n372 => ?_)
     refine sn n372.ok rfl (wgF rfl (yl 2 false rfl (n372.ne rfl (n371.ne rfl e370))) rfl) rfl (fun an373 n373 => ?_)
     have e374 := n373.ne rfl (n372.ne rfl (n371.ne rfl e370))
     refine sn n373.ok rfl (wgF rfl (yl 2 false rfl e374) rfl) rfl (fun an375 n375 => ?_)
     refine sv n375.ok rfl (wn _ rfl) rfl (o_pkF (n375.ne rfl e374) ev_const) (fun an376 n376 => ?_)
     refine wpList_nil ?_
     refine th_n (hK117 _ _ ?_)
     refine wp_cond_false (n376.at_) ?_
     refine wp_skip ?_
     refine th_n (hK111 _ _ ?_)
     refine wp_seq_k (fun K377 hK377 => ?_)
     refine wp_region_lit ?_
     refine sv n376.ok rfl (wn _ rfl) rfl (o_bd (cells := #[.int .i64 (-1), .int .i64 0]) (vs := [(0, .int .i64 (-1))]) (by simp [ev_const]) (by kernel_rfl)) (fun an378 n378 => ?_)
     refine sal (cs := #[.int .i64 0, .int .i64 0]) n378.ok rfl (wn _ rfl) rfl (o_al (z := .agg #[.int .i64 0, .int .i64 0]) (by kernel_rfl)) (fun an379 w381 b380 W382 n379 => ?_)
     have l383 : b3 < b380 := by rw [W382.eq]; exact kb3I60.lt
     have l384 : b42 < b380 := by rw [W382.eq]; exact kb42I60.lt
     have l385 : w.heap.size ≤ b380 := by rw [W382.eq]; exact GI60.size
     have G386 := GI60.trans W382.gr
     have B387 := kb3I60.gr W382.gr
     have B388 := kb42I60.gr W382.gr
     refine ssR rfl (wn _ rfl) (o_stR n379.at_ (n379.ne rfl n378.at_) W382.bk (by kernel_rfl) rfl (by simp [Value.oneCell'])) W382.bk (fun w389 u390 u390b => ?_)
     have G391 : Gr w w389 := Below.upd G386 l385 u390
     have B392 := B387.upd u390 (Nat.ne_of_lt l383)
     have B393 := B388.upd u390 (Nat.ne_of_lt l384)
     refine wpList_nil ?_
     refine th_n (hK377 _ _ ?_)
     refine wp_seq_k (fun K394 hK394 => ?_)
     refine wp_seq_k (fun K395 hK395 => ?_)
     refine wp_region_lit ?_
     have e396 := n379.ne rfl (n378.ne rfl (n376.ne rfl (n375.ne rfl (n373.ne rfl (n372.ne rfl (n371.ne rfl (n369.ne rfl (n368.ne rfl (n367.ne rfl (n120.ne rfl (n119.ne rfl (n118.ne rfl (n116.ne rfl (n115.ne rfl (n114.ne rfl (n113.ne rfl (n68.ne rfl s1I60)))))))))))))))))
     refine sv n379.ok rfl (wn _ rfl) rfl (o_fa (z := 1) e396 Tryz.underlying33 rfl (by kernel_rfl) rfl rfl) (fun an397 n397 => ?_)
     refine sv n397.ok rfl (wn _ rfl) rfl (o_ld n397.at_ (Tryz.isAgg31 _) (B392.cell _ rfl)) (fun an398 n398 => ?_)
     refine sv n398.ok rfl (wn _ rfl) rfl (o_len n398.at_ Tryz.underlying31) (fun an399 n399 => ?_)
     refine sv n399.ok rfl (wn _ rfl) rfl (o_mv ev_const) (fun an400 n400 => ?_)
     refine wpList_nil ?_
     refine th_n (hK395 _ _ ?_)
     refine wp_block ?_
     have hcv := chkV_ok hbA (.inl (by omega))
     have e402 := n400.ne rfl (n399.ne rfl (n398.ne rfl (n397.ne rfl (n379.ne rfl (n378.ne rfl (n376.ne rfl (n375.ne rfl (n373.ne rfl (n372.ne rfl (n371.ne rfl (n369.ne rfl (n368.ne rfl (n367.ne rfl (n120.ne rfl (n119.ne rfl (n118.ne rfl (n116.ne rfl (n115.ne rfl (n114.ne rfl (n113.ne rfl (n68.ne rfl s2I60)))))))))))))))))))))
     have e403 := n400.ne rfl (n399.ne rfl (n398.ne rfl (n397.ne rfl (n379.ne rfl (n378.ne rfl (n376.ne rfl (n375.ne rfl (n373.ne rfl (n372.ne rfl (n371.ne rfl (n369.ne rfl (n368.ne rfl (n367.ne rfl (n120.ne rfl (n119.ne rfl (n118.ne rfl (n116.ne rfl (n115.ne rfl (n114.ne rfl (n113.ne rfl (n68.ne rfl s3I60)))))))))))))))))))))
     have e404 := n400.ne rfl (n399.ne rfl (n398.ne rfl (n397.ne rfl n379.at_)))
     refine lp (fun (nL : Nat) (aL : Act) (wL : World) => ∃ k : Nat, ∃ la : Int, ∃ lb : Int, nL = M.length - k ∧ Ok 92 aL ∧ Gr w wL ∧ (aL.eval (.tmp 2) = .int .i64 0) ∧ (aL.eval (.tmp 3) = .pointer (some ⟨b42, 0, none⟩)) ∧ (aL.eval (.tmp 7) = .pointer (some ⟨b380, 0, none⟩)) ∧ (aL.eval (.tmp 52) = .slice ma M.length mc) ∧ (aL.eval (.tmp 53) = .int .i64 ((M.length : Nat) : Int)) ∧ (aL.eval (.tmp 54) = .int .i64 (k : Int)) ∧ (Bk wL b42 (a5 (gv V i)) 129) ∧ (Bk wL b380 #[.int .i64 (la), .int .i64 (lb)] 55) ∧ (k ≤ M.length) ∧ (∀ j, j < k → badM (natsI V) M j = 0) ∧ (lastD M k la lb)) _ ⟨0, (-1), 0, rfl, n400.ok, G391, e402, e403, e404, (n400.ne rfl (n399.ne rfl n398.at_)), (n400.ne rfl n399.at_), n400.at_, B393, u390b, by omega, fun j h => by omega, .inl ⟨rfl, rfl, rfl⟩⟩ ?_
     rintro m405 aI401 w407 ⟨k, la, lb, hmI401, okI401, GI401, s2I401, s3I401, s7I401, s52I401, s53I401, s54I401, kb42I401, kb380I401, hkI401, hbI401, hlaI401⟩ KI401 hKI401
     refine wp_seq_k (fun K408 hK408 => ?_)
     refine wp_region_lit ?_
     refine sv okI401 rfl (wn _ rfl) rfl (o_ltI s54I401 s53I401) (fun an409 n409 => ?_)
     refine wpList_nil ?_
     refine th_n (hK408 _ _ ?_)
     refine wp_seq_k (fun K410 hK410 => ?_)
     by_cases c411 : (k : Int) < ((M.length : Nat) : Int)
     ·refine wp_cond_true ((n409.at_).trans (congrArg Value.bool (decide_eq_true c411))) ?_
      refine wp_skip ?_
      refine th_n (hK410 _ _ ?_)
      refine wp_seq_k (fun K412 hK412 => ?_)
      refine wp_block ?_
      refine wp_seq_k (fun K413 hK413 => ?_)
      refine wp_region_lit ?_
      have h414l : k < List.length M := by omega
      obtain ⟨bh414, fh414, h414a, h414b, h414c⟩ := hm (ne_nil_of_lt h414l)
      obtain ⟨⟨xh414, yh414⟩, h414x⟩ : ∃ x, M[k]? = some x := ⟨_, List.getElem?_eq_getElem h414l⟩
      refine sv n409.ok rfl (wn _ rfl) rfl (o_iaV (i := k) (s := 2) h414a (n409.ne rfl s52I401) (n409.ne rfl s54I401) Tryz.underlying31 (by kernel_rfl) h414l) (fun an415 n415 => ?_)
      refine sv n415.ok rfl (wn _ rfl) rfl (o_ldA (k := fh414 + k * 2) n415.at_ (cells_to (fun j => Below.cell GI401 h414b) (two_cells (h414c _ _ h414x).1 (h414c _ _ h414x).2)) Tryz.underlying55 rfl (by kernel_rfl)) (fun an416 n416 => ?_)
      refine sal (cs := #[.int .i64 0, .int .i64 0]) n416.ok rfl (wn _ rfl) rfl (o_al (z := .agg #[.int .i64 0, .int .i64 0]) (by kernel_rfl)) (fun an417 w419 b418 W420 n417 => ?_)
      have l421 : b42 < b418 := by rw [W420.eq]; exact kb42I401.lt
      have l422 : b380 < b418 := by rw [W420.eq]; exact kb380I401.lt
      have l423 : w.heap.size ≤ b418 := by rw [W420.eq]; exact GI401.size
      have G424 := GI401.trans W420.gr
      have B425 := kb42I401.gr W420.gr
      have B426 := kb380I401.gr W420.gr
      refine ssR rfl (wn _ rfl) (o_stR n417.at_ (n417.ne rfl n416.at_) W420.bk (by kernel_rfl) rfl (by simp [Value.oneCell'])) W420.bk (fun w427 u428 u428b => ?_)
      have G429 : Gr w w427 := Below.upd G424 l423 u428
      have B430 := B425.upd u428 (Nat.ne_of_lt l421)
      have B431 := B426.upd u428 (Nat.ne_of_lt l422)
      refine wpList_nil ?_
      refine th_n (hK413 _ _ ?_)
      refine wp_seq_k (fun K432 hK432 => ?_)
      refine wp_seq_k (fun K433 hK433 => ?_)
      refine wp_region_lit ?_
      refine sv n417.ok rfl (wn _ rfl) rfl (o_ldR n417.at_ u428b Tryz.underlying55 rfl (by kernel_rfl)) (fun an434 n434 => ?_)
      refine sc n434.ok rfl (wn _ rfl) rfl (o_f1 Tryz.func107 rfl rfl rfl n434.at_) (rdot_p _ _ w427) ?_
      rintro _ w436 ⟨rfl, g437⟩
      refine ⟨_, rfl, fun an435 n435 => ?_⟩
      have G438 := G429.trans g437
      have B439 := B430.gr g437
      have B440 := B431.gr g437
      have B441 := u428b.gr g437
      refine sv n435.ok rfl (wn _ rfl) rfl (o_notD n435.at_) (fun an442 n442 => ?_)
      refine wpList_nil ?_
      refine th_n (hK433 _ _ ?_)
      by_cases c443 : ¬ (dotB (xh414, yh414) = true)
      ·refine wp_cond_true ((n442.at_).trans (congrArg Value.bool (decide_eq_true c443))) ?_
       refine wp_seq_k (fun K444 hK444 => ?_)
       refine wp_region_lit ?_
       refine sv n442.ok rfl (wn _ rfl) rfl (o_as ev_const) (fun an445 n445 => ?_)
       refine wpList_nil ?_
       refine th_n (hK444 _ _ ?_)
       refine wp_ret ?_
       refine th_r ?_
       refine ib_r ?_
       refine th_r ?_
       refine th_r ?_
       refine ib_r ?_
       refine th_r ?_
       have hnd : ¬ dotB (xh414, yh414) = true := c443
       exact ret1 n445.ok rfl (n445.at_) ⟨by rw [chk_dot hl hcv hbI401 (by omega) (badM_dot h414x (by simpa using hnd)) (by omega)], G438⟩
      ·refine wp_cond_false ((n442.at_).trans (congrArg Value.bool (decide_eq_false c443))) ?_
       have hdB : dotB (xh414, yh414) = true := Classical.not_not.1 c443
       obtain ⟨hd1, hd2, hd3, hd4⟩ := (dotB_iff _).1 hdB
       simp only at hd1 hd2 hd3 hd4
       obtain ⟨nh414, hnh414⟩ : ∃ n : Nat, xh414 = (n : Int) := ⟨xh414.toNat, by omega⟩
       subst hnh414
       have hg := gv_cv hbA nh414 (i := i) (by omega)
       have hgl := gv_le hbA i nh414
       refine wp_skip ?_
       refine th_n (hK432 _ _ ?_)
       refine wp_seq_k (fun K446 hK446 => ?_)
       refine wp_seq_k (fun K447 hK447 => ?_)
       refine h_start [] 29 #[false, false, false, false, false, false, false, false, false, false, false, false, false, false, false, false, false, false, false, false, false, false, false, false, false, false, false, false, false] (by kernel_rfl) rfl rfl ?_
       have S448 := Sx.drew [] w436
       have g449 := (Gr.refl w436).drew
       generalize w436.drew = w450 at *
       have G451 := G438.trans g449
       have B452 := B439.gr g449
       have B453 := B440.gr g449
       have B454 := B441.gr g449
       have e455 := n442.ne rfl (n435.ne rfl (n434.ne rfl n417.at_))
       refine h_take (i := 0) (fuel := 28) n442.ok rfl rfl rfl (by kernel_rfl) (by kernel_rfl) (by kernel_rfl) (fun _ _ _ _ _ h => h) (wn _ rfl) (fun x hx => o_fa (z := 1) e455 Tryz.underlying55 rfl (by kernel_rfl) rfl rfl) S448 (fun an456 n456 => ?_)
       refine h_take (i := 1) (fuel := 27) n456.ok rfl rfl rfl (by kernel_rfl) (by kernel_rfl) (by kernel_rfl) (fun _ _ _ _ _ h => h) (wn _ rfl) (fun x hx => o_ld n456.at_ (Tryz.isAgg3 _) ((Sx.bk hx B441 (by simp <;> omega)).cell _ rfl)) S448 (fun an457 n457 => ?_)
       refine h_take (i := 2) (fuel := 26) n457.ok rfl rfl rfl (by kernel_rfl) (by kernel_rfl) (by kernel_rfl) (fun _ _ _ _ _ h => h) (wn _ rfl) (fun x hx => o_fa (z := 1) (n457.ne rfl (n456.ne rfl e455)) Tryz.underlying55 rfl (by kernel_rfl) rfl rfl) S448 (fun an458 n458 => ?_)
       refine h_take (i := 3) (fuel := 25) n458.ok rfl rfl rfl (by kernel_rfl) (by kernel_rfl) (by kernel_rfl) (fun _ _ _ _ _ h => h) (wn _ rfl) (fun x hx => o_ld n458.at_ (Tryz.isAgg3 _) ((Sx.bk hx B441 (by simp <;> omega)).cell _ rfl)) S448 (fun an459 n459 => ?_)
       have e460 := n459.ne rfl (n458.ne rfl (n457.ne rfl (n456.ne rfl (n442.ne rfl (n435.ne rfl (n434.ne rfl (n417.ne rfl (n416.ne rfl (n415.ne rfl (n409.ne rfl s3I401))))))))))
       refine h_take (i := 4) (fuel := 24) n459.ok rfl rfl rfl (by kernel_rfl) (by kernel_rfl) (by kernel_rfl) (fun _ _ _ _ _ h => h) (wn _ rfl) (fun x hx => o_iaA (i := nh414) (s := 1) e460 n459.at_ Tryz.underlying129 (by kernel_rfl) (by omega)) S448 (fun an461 n461 => ?_)
       refine h_take (i := 5) (fuel := 23) n461.ok rfl rfl rfl (by kernel_rfl) (by kernel_rfl) (by kernel_rfl) (fun _ _ _ _ _ h => h) (wn _ rfl) (fun x hx => o_ld n461.at_ (Tryz.isAgg3 _) ((Sx.bk hx B439 (by simp <;> omega)).cell _ (by rw [show 0 + (nh414) * 1 = nh414 by omega]; exact a5_at _ _ (by omega)))) S448 (fun an462 n462 => ?_)
       refine h_take (i := 6) (fuel := 22) n462.ok rfl rfl rfl (by kernel_rfl) (by kernel_rfl) (by kernel_rfl) (fun _ _ _ _ _ h => h) (wn _ rfl) (fun x hx => o_add n462.at_ ev_const rfl (by omega)) S448 (fun an463 n463 => ?_)
       have e464 := n463.ne rfl (n462.ne rfl (n461.ne rfl (n459.ne rfl (n458.ne rfl n457.at_))))
       refine h_take (i := 7) (fuel := 21) n463.ok rfl rfl rfl (by kernel_rfl) (by kernel_rfl) (by kernel_rfl) (fun _ _ _ _ _ h => h) (wn _ rfl) (fun x hx => o_ltI e464 n463.at_) S448 (fun an465 n465 => ?_)
       refine h_take (i := 8) (fuel := 20) n465.ok rfl rfl rfl (by kernel_rfl) (by kernel_rfl) (by kernel_rfl) (fun _ _ _ _ _ h => h) (wn _ rfl) (fun x hx => o_mv n465.at_) S448 (fun an466 n466 => ?_)
       by_cases c467 : yh414 < (((gv V i) (nh414)) + 2)
       ·have e468 := (n466.at_).trans (congrArg Value.bool (decide_eq_true c467))
        refine h_not (i := 9) (fuel := 19) n466.ok rfl rfl rfl (by kernel_rfl) (by kernel_rfl) (by kernel_rfl) (fun _ _ _ _ _ h => h) (wgF rfl (yl 8 true rfl e468) rfl) S448 (fun an470 n470 => ?_)
        refine h_not (i := 10) (fuel := 18) n470.ok rfl rfl rfl (by kernel_rfl) (by kernel_rfl) (by kernel_rfl) (fun _ _ _ _ _ h => h) (wgF rfl (yl 8 true rfl (n470.ne rfl e468)) rfl) S448 (fun an471 n471 => ?_)
        refine h_not (i := 11) (fuel := 17) n471.ok rfl rfl rfl (by kernel_rfl) (by kernel_rfl) (by kernel_rfl) (fun _ _ _ _ _ h => h) (wgF rfl (yl 8 true rfl (n471.ne rfl (n470.ne rfl e468))) rfl) S448 (fun an472 n472 => ?_)
        have e473 := n472.ne rfl (n471.ne rfl (n470.ne rfl e468))
        refine h_not (i := 12) (fuel := 16) n472.ok rfl rfl rfl (by kernel_rfl) (by kernel_rfl) (by kernel_rfl) (fun _ _ _ _ _ h => h) (wgF rfl (yl 8 true rfl e473) rfl) S448 (fun an474 n474 => ?_)
        refine h_not (i := 13) (fuel := 15) n474.ok rfl rfl rfl (by kernel_rfl) (by kernel_rfl) (by kernel_rfl) (fun _ _ _ _ _ h => h) (wgF rfl (yl 8 true rfl (n474.ne rfl e473)) rfl) S448 (fun an475 n475 => ?_)
        refine h_take (i := 14) (fuel := 14) n475.ok rfl rfl rfl (by kernel_rfl) (by kernel_rfl) (by kernel_rfl) (fun _ _ _ _ _ h => h) (wn _ rfl) (fun x hx => o_pkT (n475.ne rfl (n474.ne rfl e473)) ev_const) S448 (fun an476 n476 => ?_)
        refine h_take (i := 15) (fuel := 13) n476.ok rfl rfl rfl (by kernel_rfl) (by kernel_rfl) (by kernel_rfl) (fun _ _ _ _ _ h => h) (wn _ rfl) (fun x hx => o_mv n476.at_) S448 (fun an477 n477 => ?_)
        refine h_not (i := 16) (fuel := 12) n477.ok rfl rfl rfl (by kernel_rfl) (by kernel_rfl) (by kernel_rfl) (fun _ _ _ _ _ h => h) (wgF rfl (yl 15 true rfl n477.at_) rfl) S448 (fun an478 n478 => ?_)
        refine h_not (i := 17) (fuel := 11) n478.ok rfl rfl rfl (by kernel_rfl) (by kernel_rfl) (by kernel_rfl) (fun _ _ _ _ _ h => h) (wgF rfl (yl 15 true rfl (n478.ne rfl n477.at_)) rfl) S448 (fun an479 n479 => ?_)
        refine h_not (i := 18) (fuel := 10) n479.ok rfl rfl rfl (by kernel_rfl) (by kernel_rfl) (by kernel_rfl) (fun _ _ _ _ _ h => h) (wgF rfl (yl 15 true rfl (n479.ne rfl (n478.ne rfl n477.at_))) rfl) S448 (fun an480 n480 => ?_)
        have e481 := n480.ne rfl (n479.ne rfl (n478.ne rfl n477.at_))
        refine h_not (i := 19) (fuel := 9) n480.ok rfl rfl rfl (by kernel_rfl) (by kernel_rfl) (by kernel_rfl) (fun _ _ _ _ _ h => h) (wgF rfl (yl 15 true rfl e481) rfl) S448 (fun an482 n482 => ?_)
        refine h_not (i := 20) (fuel := 8) n482.ok rfl rfl rfl (by kernel_rfl) (by kernel_rfl) (by kernel_rfl) (fun _ _ _ _ _ h => h) (wgF rfl (yl 15 true rfl (n482.ne rfl e481)) rfl) S448 (fun an483 n483 => ?_)
        refine h_not (i := 21) (fuel := 7) n483.ok rfl rfl rfl (by kernel_rfl) (by kernel_rfl) (by kernel_rfl) (fun _ _ _ _ _ h => h) (wgF rfl (yl 15 true rfl (n483.ne rfl (n482.ne rfl e481))) rfl) S448 (fun an484 n484 => ?_)
        refine h_not (i := 22) (fuel := 6) n484.ok rfl rfl rfl (by kernel_rfl) (by kernel_rfl) (by kernel_rfl) (fun _ _ _ _ _ h => h) (wgU rfl (yu 21 rfl n484.at_)) S448 (fun an485 n485 => ?_)
        refine h_not (i := 23) (fuel := 5) n485.ok rfl rfl rfl (by kernel_rfl) (by kernel_rfl) (by kernel_rfl) (fun _ _ _ _ _ h => h) (wgU rfl (yu 21 rfl (n485.ne rfl n484.at_))) S448 (fun an486 n486 => ?_)
        refine h_not (i := 24) (fuel := 4) n486.ok rfl rfl rfl (by kernel_rfl) (by kernel_rfl) (by kernel_rfl) (fun _ _ _ _ _ h => h) (wgU rfl (yu 21 rfl (n486.ne rfl (n485.ne rfl n484.at_)))) S448 (fun an487 n487 => ?_)
        have e488 := n487.ne rfl (n486.ne rfl (n485.ne rfl n484.at_))
        refine h_not (i := 25) (fuel := 3) n487.ok rfl rfl rfl (by kernel_rfl) (by kernel_rfl) (by kernel_rfl) (fun _ _ _ _ _ h => h) (wgU rfl (yu 21 rfl e488)) S448 (fun an489 n489 => ?_)
        refine h_not (i := 26) (fuel := 2) n489.ok rfl rfl rfl (by kernel_rfl) (by kernel_rfl) (by kernel_rfl) (fun _ _ _ _ _ h => h) (wgU rfl (yu 21 rfl (n489.ne rfl e488))) S448 (fun an490 n490 => ?_)
        have e491 := n490.ne rfl (n489.ne rfl (n487.ne rfl (n486.ne rfl (n485.ne rfl (n484.ne rfl (n483.ne rfl (n482.ne rfl e481)))))))
        refine h_not (i := 27) (fuel := 1) n490.ok rfl rfl rfl (by kernel_rfl) (by kernel_rfl) (by kernel_rfl) (fun _ _ _ _ _ h => h) (wgF rfl (yl 15 true rfl e491) rfl) S448 (fun an492 n492 => ?_)
        refine h_take (i := 28) (fuel := 0) n492.ok rfl rfl rfl (by kernel_rfl) (by kernel_rfl) (by kernel_rfl) (fun _ _ _ _ _ h => h) (wn _ rfl) (fun x hx => o_pkT (n492.ne rfl e491) ev_const) S448 (fun an493 n493 => ?_)
        refine wpAnyH_done (by kernel_rfl) ?_ _
        refine th_n (hK447 _ _ ?_)
        refine wp_cond_true (n493.at_) ?_
        refine wp_seq_k (fun K494 hK494 => ?_)
        refine wp_region_lit ?_
        refine sv n493.ok rfl (wn _ rfl) rfl (o_as ev_const) (fun an495 n495 => ?_)
        refine wpList_nil ?_
        refine th_n (hK494 _ _ ?_)
        refine wp_ret ?_
        refine th_r ?_
        refine ib_r ?_
        refine th_r ?_
        refine th_r ?_
        refine ib_r ?_
        refine th_r ?_
        have hwhy : yh414 < (cv (natsI V) (nh414 : Int).toNat : Int) + 2 ∨ (0 < k ∧ ¬ ltI (M.getD (k - 1) (0, 0)) ((nh414 : Int), yh414)) := by
         rw [Int.toNat_natCast, ← hg]
         by_cases q : yh414 < gv V i nh414 + 2
         ·exact .inl q
         ·exact .inr (lastD_lt hlaI401 (by omega) (by omega))
        exact ret1 n495.ok rfl (n495.at_) ⟨by rw [chk_dot hl hcv hbI401 (by omega) (badM_form h414x hdB hwhy) (by omega)], G451⟩
       ·have e496 := (n466.at_).trans (congrArg Value.bool (decide_eq_false c467))
        have e498 := n466.ne rfl (n465.ne rfl (n463.ne rfl (n462.ne rfl (n461.ne rfl (n459.ne rfl (n458.ne rfl (n457.ne rfl (n456.ne rfl e455))))))))
        refine h_take (i := 9) (fuel := 19) n466.ok rfl rfl rfl (by kernel_rfl) (by kernel_rfl) (by kernel_rfl) (fun _ _ _ _ _ h => h) (wgT rfl (yl 8 false rfl e496) rfl) (fun x hx => o_fa (z := 1) e498 Tryz.underlying55 rfl (by kernel_rfl) rfl rfl) S448 (fun an499 n499 => ?_)
        refine h_take (i := 10) (fuel := 18) n499.ok rfl rfl rfl (by kernel_rfl) (by kernel_rfl) (by kernel_rfl) (fun _ _ _ _ _ h => h) (wgT rfl (yl 8 false rfl (n499.ne rfl e496)) rfl) (fun x hx => o_ld n499.at_ (Tryz.isAgg3 _) ((Sx.bk hx B441 (by simp <;> omega)).cell _ rfl)) S448 (fun an500 n500 => ?_)
        have e501 := n500.ne rfl (n499.ne rfl (n466.ne rfl (n465.ne rfl (n463.ne rfl (n462.ne rfl (n461.ne rfl (n459.ne rfl (n458.ne rfl (n457.ne rfl (n456.ne rfl (n442.ne rfl (n435.ne rfl (n434.ne rfl (n417.ne rfl (n416.ne rfl (n415.ne rfl (n409.ne rfl s7I401)))))))))))))))))
        refine h_take (i := 11) (fuel := 17) n500.ok rfl rfl rfl (by kernel_rfl) (by kernel_rfl) (by kernel_rfl) (fun _ _ _ _ _ h => h) (wgT rfl (yl 8 false rfl (n500.ne rfl (n499.ne rfl e496))) rfl) (fun x hx => o_fa (z := 1) e501 Tryz.underlying55 rfl (by kernel_rfl) rfl rfl) S448 (fun an502 n502 => ?_)
        have e503 := n502.ne rfl (n500.ne rfl (n499.ne rfl e496))
        refine h_take (i := 12) (fuel := 16) n502.ok rfl rfl rfl (by kernel_rfl) (by kernel_rfl) (by kernel_rfl) (fun _ _ _ _ _ h => h) (wgT rfl (yl 8 false rfl e503) rfl) (fun x hx => o_ld n502.at_ (Tryz.isAgg3 _) ((Sx.bk hx B440 (by simp <;> omega)).cell _ rfl)) S448 (fun an504 n504 => ?_)
        refine h_take (i := 13) (fuel := 15) n504.ok rfl rfl rfl (by kernel_rfl) (by kernel_rfl) (by kernel_rfl) (fun _ _ _ _ _ h => h) (wgT rfl (yl 8 false rfl (n504.ne rfl e503)) rfl) (fun x hx => o_ltI (n504.ne rfl (n502.ne rfl n500.at_)) n504.at_) S448 (fun an505 n505 => ?_)
        refine h_take (i := 14) (fuel := 14) n505.ok rfl rfl rfl (by kernel_rfl) (by kernel_rfl) (by kernel_rfl) (fun _ _ _ _ _ h => h) (wn _ rfl) (fun x hx => o_pkF (n505.ne rfl (n504.ne rfl e503)) n505.at_) S448 (fun an506 n506 => ?_)
        refine h_take (i := 15) (fuel := 13) n506.ok rfl rfl rfl (by kernel_rfl) (by kernel_rfl) (by kernel_rfl) (fun _ _ _ _ _ h => h) (wn _ rfl) (fun x hx => o_mv n506.at_) S448 (fun an507 n507 => ?_)
        by_cases c508 : (nh414 : Int) < la
        ·have e509 := (n507.at_).trans (congrArg Value.bool (decide_eq_true c508))
         refine h_not (i := 16) (fuel := 12) n507.ok rfl rfl rfl (by kernel_rfl) (by kernel_rfl) (by kernel_rfl) (fun _ _ _ _ _ h => h) (wgF rfl (yl 15 true rfl e509) rfl) S448 (fun an512 n512 => ?_)
         refine h_not (i := 17) (fuel := 11) n512.ok rfl rfl rfl (by kernel_rfl) (by kernel_rfl) (by kernel_rfl) (fun _ _ _ _ _ h => h) (wgF rfl (yl 15 true rfl (n512.ne rfl e509)) rfl) S448 (fun an513 n513 => ?_)
         refine h_not (i := 18) (fuel := 10) n513.ok rfl rfl rfl (by kernel_rfl) (by kernel_rfl) (by kernel_rfl) (fun _ _ _ _ _ h => h) (wgF rfl (yl 15 true rfl (n513.ne rfl (n512.ne rfl e509))) rfl) S448 (fun an514 n514 => ?_)
         have e515 := n514.ne rfl (n513.ne rfl (n512.ne rfl e509))
         refine h_not (i := 19) (fuel := 9) n514.ok rfl rfl rfl (by kernel_rfl) (by kernel_rfl) (by kernel_rfl) (fun _ _ _ _ _ h => h) (wgF rfl (yl 15 true rfl e515) rfl) S448 (fun an516 n516 => ?_)
         refine h_not (i := 20) (fuel := 8) n516.ok rfl rfl rfl (by kernel_rfl) (by kernel_rfl) (by kernel_rfl) (fun _ _ _ _ _ h => h) (wgF rfl (yl 15 true rfl (n516.ne rfl e515)) rfl) S448 (fun an517 n517 => ?_)
         refine h_not (i := 21) (fuel := 7) n517.ok rfl rfl rfl (by kernel_rfl) (by kernel_rfl) (by kernel_rfl) (fun _ _ _ _ _ h => h) (wgF rfl (yl 15 true rfl (n517.ne rfl (n516.ne rfl e515))) rfl) S448 (fun an518 n518 => ?_)
         refine h_not (i := 22) (fuel := 6) n518.ok rfl rfl rfl (by kernel_rfl) (by kernel_rfl) (by kernel_rfl) (fun _ _ _ _ _ h => h) (wgU rfl (yu 21 rfl n518.at_)) S448 (fun an519 n519 => ?_)
         refine h_not (i := 23) (fuel := 5) n519.ok rfl rfl rfl (by kernel_rfl) (by kernel_rfl) (by kernel_rfl) (fun _ _ _ _ _ h => h) (wgU rfl (yu 21 rfl (n519.ne rfl n518.at_))) S448 (fun an520 n520 => ?_)
         refine h_not (i := 24) (fuel := 4) n520.ok rfl rfl rfl (by kernel_rfl) (by kernel_rfl) (by kernel_rfl) (fun _ _ _ _ _ h => h) (wgU rfl (yu 21 rfl (n520.ne rfl (n519.ne rfl n518.at_)))) S448 (fun an521 n521 => ?_)
         have e522 := n521.ne rfl (n520.ne rfl (n519.ne rfl n518.at_))
         refine h_not (i := 25) (fuel := 3) n521.ok rfl rfl rfl (by kernel_rfl) (by kernel_rfl) (by kernel_rfl) (fun _ _ _ _ _ h => h) (wgU rfl (yu 21 rfl e522)) S448 (fun an523 n523 => ?_)
         refine h_not (i := 26) (fuel := 2) n523.ok rfl rfl rfl (by kernel_rfl) (by kernel_rfl) (by kernel_rfl) (fun _ _ _ _ _ h => h) (wgU rfl (yu 21 rfl (n523.ne rfl e522))) S448 (fun an524 n524 => ?_)
         have e525 := n524.ne rfl (n523.ne rfl (n521.ne rfl (n520.ne rfl (n519.ne rfl (n518.ne rfl (n517.ne rfl (n516.ne rfl e515)))))))
         refine h_not (i := 27) (fuel := 1) n524.ok rfl rfl rfl (by kernel_rfl) (by kernel_rfl) (by kernel_rfl) (fun _ _ _ _ _ h => h) (wgF rfl (yl 15 true rfl e525) rfl) S448 (fun an526 n526 => ?_)
         refine h_take (i := 28) (fuel := 0) n526.ok rfl rfl rfl (by kernel_rfl) (by kernel_rfl) (by kernel_rfl) (fun _ _ _ _ _ h => h) (wn _ rfl) (fun x hx => o_pkT (n526.ne rfl e525) ev_const) S448 (fun an527 n527 => ?_)
         refine wpAnyH_done (by kernel_rfl) ?_ _
         refine th_n (hK447 _ _ ?_)
         refine wp_cond_true (n527.at_) ?_
         refine wp_seq_k (fun K528 hK528 => ?_)
         refine wp_region_lit ?_
         refine sv n527.ok rfl (wn _ rfl) rfl (o_as ev_const) (fun an529 n529 => ?_)
         refine wpList_nil ?_
         refine th_n (hK528 _ _ ?_)
         refine wp_ret ?_
         refine th_r ?_
         refine ib_r ?_
         refine th_r ?_
         refine th_r ?_
         refine ib_r ?_
         refine th_r ?_
         have hwhy : yh414 < (cv (natsI V) (nh414 : Int).toNat : Int) + 2 ∨ (0 < k ∧ ¬ ltI (M.getD (k - 1) (0, 0)) ((nh414 : Int), yh414)) := by
          rw [Int.toNat_natCast, ← hg]
          by_cases q : yh414 < gv V i nh414 + 2
          ·exact .inl q
          ·exact .inr (lastD_lt hlaI401 (by omega) (by omega))
         exact ret1 n529.ok rfl (n529.at_) ⟨by rw [chk_dot hl hcv hbI401 (by omega) (badM_form h414x hdB hwhy) (by omega)], G451⟩
        ·have e530 := (n507.at_).trans (congrArg Value.bool (decide_eq_false c508))
         have e533 := n507.ne rfl (n506.ne rfl (n505.ne rfl (n504.ne rfl (n502.ne rfl (n500.ne rfl (n499.ne rfl e498))))))
         refine h_take (i := 16) (fuel := 12) n507.ok rfl rfl rfl (by kernel_rfl) (by kernel_rfl) (by kernel_rfl) (fun _ _ _ _ _ h => h) (wgT rfl (yl 15 false rfl e530) rfl) (fun x hx => o_fa (z := 1) e533 Tryz.underlying55 rfl (by kernel_rfl) rfl rfl) S448 (fun an534 n534 => ?_)
         refine h_take (i := 17) (fuel := 11) n534.ok rfl rfl rfl (by kernel_rfl) (by kernel_rfl) (by kernel_rfl) (fun _ _ _ _ _ h => h) (wgT rfl (yl 15 false rfl (n534.ne rfl e530)) rfl) (fun x hx => o_ld n534.at_ (Tryz.isAgg3 _) ((Sx.bk hx B441 (by simp <;> omega)).cell _ rfl)) S448 (fun an535 n535 => ?_)
         have e536 := n535.ne rfl (n534.ne rfl (n507.ne rfl (n506.ne rfl (n505.ne rfl (n504.ne rfl (n502.ne rfl e501))))))
         refine h_take (i := 18) (fuel := 10) n535.ok rfl rfl rfl (by kernel_rfl) (by kernel_rfl) (by kernel_rfl) (fun _ _ _ _ _ h => h) (wgT rfl (yl 15 false rfl (n535.ne rfl (n534.ne rfl e530))) rfl) (fun x hx => o_fa (z := 1) e536 Tryz.underlying55 rfl (by kernel_rfl) rfl rfl) S448 (fun an537 n537 => ?_)
         have e538 := n537.ne rfl (n535.ne rfl (n534.ne rfl e530))
         refine h_take (i := 19) (fuel := 9) n537.ok rfl rfl rfl (by kernel_rfl) (by kernel_rfl) (by kernel_rfl) (fun _ _ _ _ _ h => h) (wgT rfl (yl 15 false rfl e538) rfl) (fun x hx => o_ld n537.at_ (Tryz.isAgg3 _) ((Sx.bk hx B440 (by simp <;> omega)).cell _ rfl)) S448 (fun an539 n539 => ?_)
         refine h_take (i := 20) (fuel := 8) n539.ok rfl rfl rfl (by kernel_rfl) (by kernel_rfl) (by kernel_rfl) (fun _ _ _ _ _ h => h) (wgT rfl (yl 15 false rfl (n539.ne rfl e538)) rfl) (fun x hx => o_eqI (n539.ne rfl (n537.ne rfl n535.at_)) n539.at_) S448 (fun an540 n540 => ?_)
         refine h_take (i := 21) (fuel := 7) n540.ok rfl rfl rfl (by kernel_rfl) (by kernel_rfl) (by kernel_rfl) (fun _ _ _ _ _ h => h) (wgT rfl (yl 15 false rfl (n540.ne rfl (n539.ne rfl e538))) rfl) (fun x hx => o_mv n540.at_) S448 (fun an541 n541 => ?_)
         by_cases c542 : (nh414 : Int) = la
         ·have e543 := (n541.at_).trans (congrArg Value.bool (decide_eq_true c542))
          have e545 := n541.ne rfl (n540.ne rfl (n539.ne rfl (n537.ne rfl (n535.ne rfl (n534.ne rfl e533)))))
          refine h_take (i := 22) (fuel := 6) n541.ok rfl rfl rfl (by kernel_rfl) (by kernel_rfl) (by kernel_rfl) (fun _ _ _ _ _ h => h) (wgT rfl (yl 21 true rfl e543) rfl) (fun x hx => o_fa (z := 1) e545 Tryz.underlying55 rfl (by kernel_rfl) rfl rfl) S448 (fun an546 n546 => ?_)
          refine h_take (i := 23) (fuel := 5) n546.ok rfl rfl rfl (by kernel_rfl) (by kernel_rfl) (by kernel_rfl) (fun _ _ _ _ _ h => h) (wgT rfl (yl 21 true rfl (n546.ne rfl e543)) rfl) (fun x hx => o_ld n546.at_ (Tryz.isAgg3 _) ((Sx.bk hx B441 (by simp <;> omega)).cell _ rfl)) S448 (fun an547 n547 => ?_)
          have e548 := n547.ne rfl (n546.ne rfl (n541.ne rfl (n540.ne rfl (n539.ne rfl (n537.ne rfl e536)))))
          refine h_take (i := 24) (fuel := 4) n547.ok rfl rfl rfl (by kernel_rfl) (by kernel_rfl) (by kernel_rfl) (fun _ _ _ _ _ h => h) (wgT rfl (yl 21 true rfl (n547.ne rfl (n546.ne rfl e543))) rfl) (fun x hx => o_fa (z := 1) e548 Tryz.underlying55 rfl (by kernel_rfl) rfl rfl) S448 (fun an549 n549 => ?_)
          have e550 := n549.ne rfl (n547.ne rfl (n546.ne rfl e543))
          refine h_take (i := 25) (fuel := 3) n549.ok rfl rfl rfl (by kernel_rfl) (by kernel_rfl) (by kernel_rfl) (fun _ _ _ _ _ h => h) (wgT rfl (yl 21 true rfl e550) rfl) (fun x hx => o_ld n549.at_ (Tryz.isAgg3 _) ((Sx.bk hx B440 (by simp <;> omega)).cell _ rfl)) S448 (fun an551 n551 => ?_)
          refine h_take (i := 26) (fuel := 2) n551.ok rfl rfl rfl (by kernel_rfl) (by kernel_rfl) (by kernel_rfl) (fun _ _ _ _ _ h => h) (wgT rfl (yl 21 true rfl (n551.ne rfl e550)) rfl) (fun x hx => o_leI (n551.ne rfl (n549.ne rfl n547.at_)) n551.at_) S448 (fun an552 n552 => ?_)
          have e553 := n552.ne rfl (n551.ne rfl (n549.ne rfl (n547.ne rfl (n546.ne rfl (n541.ne rfl (n540.ne rfl (n539.ne rfl e538)))))))
          refine h_take (i := 27) (fuel := 1) n552.ok rfl rfl rfl (by kernel_rfl) (by kernel_rfl) (by kernel_rfl) (fun _ _ _ _ _ h => h) (wgT rfl (yl 15 false rfl e553) rfl) (fun x hx => o_pkT (n552.ne rfl (n551.ne rfl e550)) n552.at_) S448 (fun an554 n554 => ?_)
          refine h_take (i := 28) (fuel := 0) n554.ok rfl rfl rfl (by kernel_rfl) (by kernel_rfl) (by kernel_rfl) (fun _ _ _ _ _ h => h) (wn _ rfl) (fun x hx => o_pkF (n554.ne rfl e553) n554.at_) S448 (fun an555 n555 => ?_)
          refine wpAnyH_done (by kernel_rfl) ?_ _
          refine th_n (hK447 _ _ ?_)
          by_cases c556 : yh414 ≤ lb
          ·refine wp_cond_true ((n555.at_).trans (congrArg Value.bool (decide_eq_true c556))) ?_
           refine wp_seq_k (fun K557 hK557 => ?_)
           refine wp_region_lit ?_
           refine sv n555.ok rfl (wn _ rfl) rfl (o_as ev_const) (fun an558 n558 => ?_)
           refine wpList_nil ?_
           refine th_n (hK557 _ _ ?_)
           refine wp_ret ?_
           refine th_r ?_
           refine ib_r ?_
           refine th_r ?_
           refine th_r ?_
           refine ib_r ?_
           refine th_r ?_
           have hwhy : yh414 < (cv (natsI V) (nh414 : Int).toNat : Int) + 2 ∨ (0 < k ∧ ¬ ltI (M.getD (k - 1) (0, 0)) ((nh414 : Int), yh414)) := by
            rw [Int.toNat_natCast, ← hg]
            by_cases q : yh414 < gv V i nh414 + 2
            ·exact .inl q
            ·exact .inr (lastD_lt hlaI401 (by omega) (by omega))
           exact ret1 n558.ok rfl (n558.at_) ⟨by rw [chk_dot hl hcv hbI401 (by omega) (badM_form h414x hdB hwhy) (by omega)], G451⟩
          ·refine wp_cond_false ((n555.at_).trans (congrArg Value.bool (decide_eq_false c556))) ?_
           refine wp_skip ?_
           refine th_n (hK446 _ _ ?_)
           refine wp_region_lit ?_
           have e559 := n555.ne rfl (n554.ne rfl (n552.ne rfl (n551.ne rfl (n549.ne rfl (n547.ne rfl (n546.ne rfl e545))))))
           refine sv n555.ok rfl (wn _ rfl) rfl (o_ldR e559 B454 Tryz.underlying55 rfl (by kernel_rfl)) (fun an560 n560 => ?_)
           have e561 := n560.ne rfl (n555.ne rfl (n554.ne rfl (n552.ne rfl (n551.ne rfl (n549.ne rfl e548)))))
           refine ssR rfl (wn _ rfl) (o_stR e561 n560.at_ B453 (by kernel_rfl) rfl (by simp [Value.oneCell'])) B453 (fun w562 u563 u563b => ?_)
           have G564 : Gr w w562 := Below.upd G451 l385 u563
           have B565 := B452.upd u563 (Nat.ne_of_lt l384)
           refine wpList_nil ?_
           refine ib_n ?_
           refine th_n (hK412 _ _ ?_)
           refine wp_region_lit ?_
           have e567 := n560.ne rfl (n555.ne rfl (n554.ne rfl (n552.ne rfl (n551.ne rfl (n549.ne rfl (n547.ne rfl (n546.ne rfl (n541.ne rfl (n540.ne rfl (n539.ne rfl (n537.ne rfl (n535.ne rfl (n534.ne rfl (n507.ne rfl (n506.ne rfl (n505.ne rfl (n504.ne rfl (n502.ne rfl (n500.ne rfl (n499.ne rfl (n466.ne rfl (n465.ne rfl (n463.ne rfl (n462.ne rfl (n461.ne rfl (n459.ne rfl (n458.ne rfl (n457.ne rfl (n456.ne rfl (n442.ne rfl (n435.ne rfl (n434.ne rfl (n417.ne rfl (n416.ne rfl (n415.ne rfl (n409.ne rfl s54I401))))))))))))))))))))))))))))))))))))
           refine sv n560.ok rfl (wn _ rfl) rfl (o_add (r := ((k + 1 : Nat) : Int)) e567 ev_const (by omega) (by omega)) (fun an568 n568 => ?_)
           refine sv n568.ok rfl (wn _ rfl) rfl (o_mv n568.at_) (fun an569 n569 => ?_)
           refine wpList_nil ?_
           have hok : badM (natsI V) M k = 0 := badM_ok h414x hdB (by
            rintro (q | q)
            ·rw [Int.toNat_natCast, ← hg] at q; omega
            ·exact lastD_ge hlaI401 (by omega) q)
           have e570 := n569.ne rfl (n568.ne rfl (n560.ne rfl (n555.ne rfl (n554.ne rfl (n552.ne rfl (n551.ne rfl (n549.ne rfl (n547.ne rfl (n546.ne rfl (n541.ne rfl (n540.ne rfl (n539.ne rfl (n537.ne rfl (n535.ne rfl (n534.ne rfl (n507.ne rfl (n506.ne rfl (n505.ne rfl (n504.ne rfl (n502.ne rfl (n500.ne rfl (n499.ne rfl (n466.ne rfl (n465.ne rfl (n463.ne rfl (n462.ne rfl (n461.ne rfl (n459.ne rfl (n458.ne rfl (n457.ne rfl (n456.ne rfl (n442.ne rfl (n435.ne rfl (n434.ne rfl (n417.ne rfl (n416.ne rfl (n415.ne rfl (n409.ne rfl s2I401))))))))))))))))))))))))))))))))))))))
           have e571 := n569.ne rfl (n568.ne rfl (n560.ne rfl (n555.ne rfl (n554.ne rfl (n552.ne rfl (n551.ne rfl (n549.ne rfl (n547.ne rfl (n546.ne rfl (n541.ne rfl (n540.ne rfl (n539.ne rfl (n537.ne rfl (n535.ne rfl (n534.ne rfl (n507.ne rfl (n506.ne rfl (n505.ne rfl (n504.ne rfl (n502.ne rfl (n500.ne rfl (n499.ne rfl (n466.ne rfl (n465.ne rfl (n463.ne rfl (n462.ne rfl (n461.ne rfl e460)))))))))))))))))))))))))))
           have e572 := n569.ne rfl (n568.ne rfl (n560.ne rfl (n555.ne rfl (n554.ne rfl (n552.ne rfl (n551.ne rfl (n549.ne rfl (n547.ne rfl (n546.ne rfl (n541.ne rfl (n540.ne rfl (n539.ne rfl (n537.ne rfl (n535.ne rfl (n534.ne rfl (n507.ne rfl (n506.ne rfl (n505.ne rfl (n504.ne rfl (n502.ne rfl (n500.ne rfl (n499.ne rfl (n466.ne rfl (n465.ne rfl (n463.ne rfl (n462.ne rfl (n461.ne rfl (n459.ne rfl (n458.ne rfl (n457.ne rfl (n456.ne rfl (n442.ne rfl (n435.ne rfl (n434.ne rfl (n417.ne rfl (n416.ne rfl (n415.ne rfl (n409.ne rfl s52I401))))))))))))))))))))))))))))))))))))))
           have e573 := n569.ne rfl (n568.ne rfl (n560.ne rfl (n555.ne rfl (n554.ne rfl (n552.ne rfl (n551.ne rfl (n549.ne rfl (n547.ne rfl (n546.ne rfl (n541.ne rfl (n540.ne rfl (n539.ne rfl (n537.ne rfl (n535.ne rfl (n534.ne rfl (n507.ne rfl (n506.ne rfl (n505.ne rfl (n504.ne rfl (n502.ne rfl (n500.ne rfl (n499.ne rfl (n466.ne rfl (n465.ne rfl (n463.ne rfl (n462.ne rfl (n461.ne rfl (n459.ne rfl (n458.ne rfl (n457.ne rfl (n456.ne rfl (n442.ne rfl (n435.ne rfl (n434.ne rfl (n417.ne rfl (n416.ne rfl (n415.ne rfl (n409.ne rfl s53I401))))))))))))))))))))))))))))))))))))))
           exact th_n (hKI401 _ _ _ (by omega) ⟨k + 1, nh414, yh414, rfl, n569.ok, G564, e570, e571, (n569.ne rfl (n568.ne rfl e561)), e572, e573, n569.at_, B565, u563b, by omega, all_up hbI401 hok, .inr ⟨by omega, h414x⟩⟩)
         ·have e574 := (n541.at_).trans (congrArg Value.bool (decide_eq_false c542))
          refine h_not (i := 22) (fuel := 6) n541.ok rfl rfl rfl (by kernel_rfl) (by kernel_rfl) (by kernel_rfl) (fun _ _ _ _ _ h => h) (wgF rfl (yl 21 false rfl e574) rfl) S448 (fun an576 n576 => ?_)
          refine h_not (i := 23) (fuel := 5) n576.ok rfl rfl rfl (by kernel_rfl) (by kernel_rfl) (by kernel_rfl) (fun _ _ _ _ _ h => h) (wgF rfl (yl 21 false rfl (n576.ne rfl e574)) rfl) S448 (fun an577 n577 => ?_)
          refine h_not (i := 24) (fuel := 4) n577.ok rfl rfl rfl (by kernel_rfl) (by kernel_rfl) (by kernel_rfl) (fun _ _ _ _ _ h => h) (wgF rfl (yl 21 false rfl (n577.ne rfl (n576.ne rfl e574))) rfl) S448 (fun an578 n578 => ?_)
          have e579 := n578.ne rfl (n577.ne rfl (n576.ne rfl e574))
          refine h_not (i := 25) (fuel := 3) n578.ok rfl rfl rfl (by kernel_rfl) (by kernel_rfl) (by kernel_rfl) (fun _ _ _ _ _ h => h) (wgF rfl (yl 21 false rfl e579) rfl) S448 (fun an580 n580 => ?_)
          refine h_not (i := 26) (fuel := 2) n580.ok rfl rfl rfl (by kernel_rfl) (by kernel_rfl) (by kernel_rfl) (fun _ _ _ _ _ h => h) (wgF rfl (yl 21 false rfl (n580.ne rfl e579)) rfl) S448 (fun an581 n581 => ?_)
          have e582 := n581.ne rfl (n580.ne rfl (n578.ne rfl (n577.ne rfl (n576.ne rfl (n541.ne rfl (n540.ne rfl (n539.ne rfl e538)))))))
          refine h_take (i := 27) (fuel := 1) n581.ok rfl rfl rfl (by kernel_rfl) (by kernel_rfl) (by kernel_rfl) (fun _ _ _ _ _ h => h) (wgT rfl (yl 15 false rfl e582) rfl) (fun x hx => o_pkF (n581.ne rfl (n580.ne rfl e579)) ev_const) S448 (fun an583 n583 => ?_)
          refine h_take (i := 28) (fuel := 0) n583.ok rfl rfl rfl (by kernel_rfl) (by kernel_rfl) (by kernel_rfl) (fun _ _ _ _ _ h => h) (wn _ rfl) (fun x hx => o_pkF (n583.ne rfl e582) n583.at_) S448 (fun an584 n584 => ?_)
          refine wpAnyH_done (by kernel_rfl) ?_ _
          refine th_n (hK447 _ _ ?_)
          refine wp_cond_false (n584.at_) ?_
          refine wp_skip ?_
          refine th_n (hK446 _ _ ?_)
          refine wp_region_lit ?_
          have e585 := n584.ne rfl (n583.ne rfl (n581.ne rfl (n580.ne rfl (n578.ne rfl (n577.ne rfl (n576.ne rfl (n541.ne rfl (n540.ne rfl (n539.ne rfl (n537.ne rfl (n535.ne rfl (n534.ne rfl e533))))))))))))
          refine sv n584.ok rfl (wn _ rfl) rfl (o_ldR e585 B454 Tryz.underlying55 rfl (by kernel_rfl)) (fun an586 n586 => ?_)
          have e587 := n586.ne rfl (n584.ne rfl (n583.ne rfl (n581.ne rfl (n580.ne rfl (n578.ne rfl (n577.ne rfl (n576.ne rfl (n541.ne rfl (n540.ne rfl (n539.ne rfl (n537.ne rfl e536)))))))))))
          refine ssR rfl (wn _ rfl) (o_stR e587 n586.at_ B453 (by kernel_rfl) rfl (by simp [Value.oneCell'])) B453 (fun w588 u589 u589b => ?_)
          have G590 : Gr w w588 := Below.upd G451 l385 u589
          have B591 := B452.upd u589 (Nat.ne_of_lt l384)
          refine wpList_nil ?_
          refine ib_n ?_
          refine th_n (hK412 _ _ ?_)
          refine wp_region_lit ?_
          have e593 := n586.ne rfl (n584.ne rfl (n583.ne rfl (n581.ne rfl (n580.ne rfl (n578.ne rfl (n577.ne rfl (n576.ne rfl (n541.ne rfl (n540.ne rfl (n539.ne rfl (n537.ne rfl (n535.ne rfl (n534.ne rfl (n507.ne rfl (n506.ne rfl (n505.ne rfl (n504.ne rfl (n502.ne rfl (n500.ne rfl (n499.ne rfl (n466.ne rfl (n465.ne rfl (n463.ne rfl (n462.ne rfl (n461.ne rfl (n459.ne rfl (n458.ne rfl (n457.ne rfl (n456.ne rfl (n442.ne rfl (n435.ne rfl (n434.ne rfl (n417.ne rfl (n416.ne rfl (n415.ne rfl (n409.ne rfl s54I401))))))))))))))))))))))))))))))))))))
          refine sv n586.ok rfl (wn _ rfl) rfl (o_add (r := ((k + 1 : Nat) : Int)) e593 ev_const (by omega) (by omega)) (fun an594 n594 => ?_)
          refine sv n594.ok rfl (wn _ rfl) rfl (o_mv n594.at_) (fun an595 n595 => ?_)
          refine wpList_nil ?_
          have hok : badM (natsI V) M k = 0 := badM_ok h414x hdB (by
           rintro (q | q)
           ·rw [Int.toNat_natCast, ← hg] at q; omega
           ·exact lastD_ge hlaI401 (by omega) q)
          have e596 := n595.ne rfl (n594.ne rfl (n586.ne rfl (n584.ne rfl (n583.ne rfl (n581.ne rfl (n580.ne rfl (n578.ne rfl (n577.ne rfl (n576.ne rfl (n541.ne rfl (n540.ne rfl (n539.ne rfl (n537.ne rfl (n535.ne rfl (n534.ne rfl (n507.ne rfl (n506.ne rfl (n505.ne rfl (n504.ne rfl (n502.ne rfl (n500.ne rfl (n499.ne rfl (n466.ne rfl (n465.ne rfl (n463.ne rfl (n462.ne rfl (n461.ne rfl (n459.ne rfl (n458.ne rfl (n457.ne rfl (n456.ne rfl (n442.ne rfl (n435.ne rfl (n434.ne rfl (n417.ne rfl (n416.ne rfl (n415.ne rfl (n409.ne rfl s2I401))))))))))))))))))))))))))))))))))))))
          have e597 := n595.ne rfl (n594.ne rfl (n586.ne rfl (n584.ne rfl (n583.ne rfl (n581.ne rfl (n580.ne rfl (n578.ne rfl (n577.ne rfl (n576.ne rfl (n541.ne rfl (n540.ne rfl (n539.ne rfl (n537.ne rfl (n535.ne rfl (n534.ne rfl (n507.ne rfl (n506.ne rfl (n505.ne rfl (n504.ne rfl (n502.ne rfl (n500.ne rfl (n499.ne rfl (n466.ne rfl (n465.ne rfl (n463.ne rfl (n462.ne rfl (n461.ne rfl e460)))))))))))))))))))))))))))
          have e598 := n595.ne rfl (n594.ne rfl (n586.ne rfl (n584.ne rfl (n583.ne rfl (n581.ne rfl (n580.ne rfl (n578.ne rfl (n577.ne rfl (n576.ne rfl (n541.ne rfl (n540.ne rfl (n539.ne rfl (n537.ne rfl (n535.ne rfl (n534.ne rfl (n507.ne rfl (n506.ne rfl (n505.ne rfl (n504.ne rfl (n502.ne rfl (n500.ne rfl (n499.ne rfl (n466.ne rfl (n465.ne rfl (n463.ne rfl (n462.ne rfl (n461.ne rfl (n459.ne rfl (n458.ne rfl (n457.ne rfl (n456.ne rfl (n442.ne rfl (n435.ne rfl (n434.ne rfl (n417.ne rfl (n416.ne rfl (n415.ne rfl (n409.ne rfl s52I401))))))))))))))))))))))))))))))))))))))
          have e599 := n595.ne rfl (n594.ne rfl (n586.ne rfl (n584.ne rfl (n583.ne rfl (n581.ne rfl (n580.ne rfl (n578.ne rfl (n577.ne rfl (n576.ne rfl (n541.ne rfl (n540.ne rfl (n539.ne rfl (n537.ne rfl (n535.ne rfl (n534.ne rfl (n507.ne rfl (n506.ne rfl (n505.ne rfl (n504.ne rfl (n502.ne rfl (n500.ne rfl (n499.ne rfl (n466.ne rfl (n465.ne rfl (n463.ne rfl (n462.ne rfl (n461.ne rfl (n459.ne rfl (n458.ne rfl (n457.ne rfl (n456.ne rfl (n442.ne rfl (n435.ne rfl (n434.ne rfl (n417.ne rfl (n416.ne rfl (n415.ne rfl (n409.ne rfl s53I401))))))))))))))))))))))))))))))))))))))
          exact th_n (hKI401 _ _ _ (by omega) ⟨k + 1, nh414, yh414, rfl, n595.ok, G590, e596, e597, (n595.ne rfl (n594.ne rfl e587)), e598, e599, n595.at_, B591, u589b, by omega, all_up hbI401 hok, .inr ⟨by omega, h414x⟩⟩)
     ·refine wp_cond_false ((n409.at_).trans (congrArg Value.bool (decide_eq_false c411))) ?_
      refine wp_exit ?_
      refine th_x ?_
      refine th_x ?_
      refine ib_x ?_
      refine th_n (hK394 _ _ ?_)
      refine wp_seq_k (fun K600 hK600 => ?_)
      refine wp_region_lit ?_
      refine sv n409.ok rfl (wn _ rfl) rfl (o_as ev_const) (fun an601 n601 => ?_)
      refine wpList_nil ?_
      refine th_n (hK600 _ _ ?_)
      refine wp_ret ?_
      exact ret1 n601.ok rfl (n601.at_) ⟨by rw [chk_ok hl hcv (fun j hj => hbI401 j (by omega))], GI401⟩
theorem rknow_any (k : Value) (V : List Int) (M : List (Int × Int)) (w : World) (hk : KnR w k V M) : Calls Tryz.prog 41 #[k] w fun e w' => e = .returned (.int .i64 (chkK V M)) ∧ Gr w w' := by
  obtain ⟨va, vc, ma, mc, rfl, hv, hm⟩ := knr_form hk
  exact rknow_k va ma vc mc V M w hv hm
end Go.Proofs.YtbpkfkljeibjoaaGreat
/- Answers of the sets of dots in one form. -/
namespace Rm
def frE (D : DS) : Int := if (formM D).length ≤ 60 then 0 else 2
def frV (D : DS) : List Nat := if (formM D).length ≤ 60 then formV D else []
def frM (D : DS) : List (Nat × Nat) := if (formM D).length ≤ 60 then formM D else []
end Rm
namespace Go.Proofs.YtbpkfkljeibjoaaGreat
open Go.RowKit Rm Gx
theorem frmK.one {base : Nat} {w : World} {e : Ending} {D : DS} (h : frmK base w e D) : ∃ k, e = .returned (.tuple #[k, .int .i64 (frE D)]) ∧ KnO base w k (frV D) (frM D) := by
  obtain ⟨k, r, rfl, ⟨h1, rfl, h2⟩ | ⟨h1, rfl, h2⟩⟩ := h
  · exact ⟨k, by unfold frE; rw [if_pos h1], by unfold frV frM; rw [if_pos h1, if_pos h1]; exact h2⟩
  · have h1' : ¬ (formM D).length ≤ 60 := by omega
    exact ⟨k, by unfold frE; rw [if_neg h1'], by unfold frV frM; rw [if_neg h1', if_neg h1']; exact h2⟩
theorem KnO.form {base : Nat} {w : World} {k : Value} {v : List Nat} {m : List (Nat × Nat)} (h : KnO base w k v m) : ∃ va vc ma mc, k = .agg #[.slice va (ints v).length vc, .slice ma (pairs m).length mc] := by
  obtain ⟨vv, mv, rfl, h1, h2⟩ := h
  obtain ⟨a, c, rfl, -⟩ := ow_form h1
  obtain ⟨a', c', rfl, -⟩ := ow_form h2
  exact ⟨a, c, a', c', by rw [ints_len, pairs_len]⟩
theorem knR_nil (w : World) : KnR w (.agg #[.slice none 0 0, .slice none 0 0]) [] [] := ⟨_, _, rfl, R1.nil w, Rd2.nil w, ⟨rfl, by simp [flat], .inl ⟨rfl, rfl⟩⟩⟩
theorem sameK_t (k k' : Value) (V : List Int) (M : List (Int × Int)) (w : World) (hk : KnR w k V M) (hk' : KnR w k' V M) (hl : V.length ≤ 100000) (hl' : M.length ≤ 100000) :
    Calls Tryz.prog 34 #[k, k'] w fun e w' => e = .returned (.bool true) ∧ Gr w w' :=
  (sameK_any k k' V V M M w hk hk' hl hl').mono fun e w' h => ⟨by rw [h.1]; simp, h.2⟩
end Go.Proofs.YtbpkfkljeibjoaaGreat
/- Equal words; small sets that are written out. -/
namespace Rm
open Go Go.RowKit Gx
def eqX (X Y : Nat → Nat) : Bool := (List.range 5).all fun i => (List.range 16).all fun k => ((X (i * 16 + k) : Nat) : Int) == ((Y (i * 16 + k) : Nat) : Int)
theorem eqX_iff (X Y : Nat → Nat) : eqX X Y = true ↔ ∀ s, s < 5 → ∀ k, k < 16 → X (s * 16 + k) = Y (s * 16 + k) := by
  unfold eqX
  simp only [List.all_eq_true, List.mem_range, beq_iff_eq]
  constructor
  · intro h s hs k hk; have := h s hs k hk; omega
  · intro h s hs k hk; have := h s hs k hk; omega
end Rm
namespace Go.Proofs.YtbpkfkljeibjoaaGreat
open Go.RowKit Rm Gx
theorem eqItems_step {D : Nat} {e : TypeId} {n i : Nat} {xs ys : Array Value} {is : List Nat} {u v : Value} {b r : Bool} {w : World} (p1 : (part e xs (i * n)).run Tryz.prog w = .ok u w) (p2 : (part e ys (i * n)).run Tryz.prog w = .ok v w)
    (hb : (Op.equalIn D e u v).run Tryz.prog w = .ok b w) (hr : (Op.eqItems D e n xs ys is).run Tryz.prog w = .ok r w) : (Op.eqItems D e n xs ys (i :: is)).run Tryz.prog w = .ok (b && r) w := by
  simp only [Op.eqItems, Sem.run_bind, p1, p2, hb, Result.andThen_ok]
  cases b
  · simp
  · simp [hr]
theorem u64_cells : Tryz.prog.cellsOf 46 = 1 := by kernel_rfl
theorem row_cells : Tryz.prog.cellsOf 47 = 16 := by kernel_rfl
theorem wRow_at (X : Nat → Nat) (i k : Nat) (hi : i < 5) (hk : k < 16) : ((wArr X).extract (i * 16) (i * 16 + 16))[k]? = some (.int .u64 ((X (i * 16 + k) : Nat) : Int)) := by
  rw [Array.getElem?_extract, if_pos (by rw [wArr_size]; omega)]
  exact wArr_at X _ (by omega)
theorem eqItems_row (d : Nat) (X Y : Nat → Nat) (i : Nat) (hi : i < 5) (w : World) : ∀ is : List Nat, (∀ k ∈ is, k < 16) → (Op.eqItems (d + 1) 46 1 ((wArr X).extract (i * 16) (i * 16 + 16)) ((wArr Y).extract (i * 16) (i * 16 + 16)) is).run Tryz.prog w = .ok (is.all fun k => ((X (i * 16 + k) : Nat) : Int) == ((Y (i * 16 + k) : Nat) : Int)) w
  | [], _ => by simp [Op.eqItems]
  | k :: is, h => by
    have hk : k < 16 := h k (List.mem_cons_self ..)
    have ih := eqItems_row d X Y i hi w is (fun j hj => h j (List.mem_cons_of_mem _ hj))
    have ha := Tryz.isAgg46 w
    have p1 : (part 46 ((wArr X).extract (i * 16) (i * 16 + 16)) (k * 1)).run Tryz.prog w = .ok (.int .u64 ((X (i * 16 + k) : Nat) : Int)) w := by
      unfold part
      rw [Sem.run_bind, ha]
      simp [wRow_at X i k hi hk]
    have p2 : (part 46 ((wArr Y).extract (i * 16) (i * 16 + 16)) (k * 1)).run Tryz.prog w = .ok (.int .u64 ((Y (i * 16 + k) : Nat) : Int)) w := by
      unfold part
      rw [Sem.run_bind, ha]
      simp [wRow_at Y i k hi hk]
    have p3 : (Op.equalIn (d + 1) 46 (.int .u64 ((X (i * 16 + k) : Nat) : Int)) (.int .u64 ((Y (i * 16 + k) : Nat) : Int))).run Tryz.prog w = .ok (((X (i * 16 + k) : Nat) : Int) == ((Y (i * 16 + k) : Nat) : Int)) w := by
      simp [Op.equalIn, Sem.run_bind, run_underlying Tryz.underlying46]
    simp only [Op.eqItems, Sem.run_bind, p1, p2, p3, Result.andThen_ok]
    cases hc : (((X (i * 16 + k) : Nat) : Int) == ((Y (i * 16 + k) : Nat) : Int))
    · simp [hc]
    · simp [hc, ih]
theorem info_some {t : TypeId} {s : Nat} (h : (Tryz.prog.info? t).map (·.size) = some s) : ∃ i, Tryz.prog.info? t = some i := by
  cases hq : Tryz.prog.info? t with
  | none => rw [hq] at h; simp at h
  | some i => exact ⟨i, rfl⟩
theorem eqItems_dots (d : Nat) (X Y : Nat → Nat) (w : World) : ∀ is : List Nat, (∀ i ∈ is, i < 5) → (Op.eqItems (d + 3) 47 16 (wArr X) (wArr Y) is).run Tryz.prog w = .ok (is.all fun i => (List.range 16).all fun k => ((X (i * 16 + k) : Nat) : Int) == ((Y (i * 16 + k) : Nat) : Int)) w
  | [], _ => by simp [Op.eqItems]
  | i :: is, h => by
    have hi : i < 5 := h i (List.mem_cons_self ..)
    have ih := eqItems_dots d X Y w is (fun j hj => h j (List.mem_cons_of_mem _ hj))
    have ha := Tryz.isAgg47 w
    have hsz : (Go.sizeOf 47).run Tryz.prog w = .ok 16 w := size_of (by kernel_rfl) w
    have p1 : ∀ X, (part 47 (wArr X) (i * 16)).run Tryz.prog w = .ok (.agg ((wArr X).extract (i * 16) (i * 16 + 16))) w := by
      intro X
      unfold part
      rw [Sem.run_bind, ha]
      simp [hsz]
    obtain ⟨q, hq⟩ := info_some (show (Tryz.prog.info? 46).map (·.size) = some 1 by kernel_rfl)
    have p3 : (Op.equalIn (d + 3) 47 (.agg ((wArr X).extract (i * 16) (i * 16 + 16))) (.agg ((wArr Y).extract (i * 16) (i * 16 + 16)))).run Tryz.prog w = .ok ((List.range 16).all fun k => ((X (i * 16 + k) : Nat) : Int) == ((Y (i * 16 + k) : Nat) : Int)) w := by
      rw [run_equalIn_array (P := Tryz.prog) w (d + 2) _ _ Tryz.underlying47 hq, u64_cells]
      exact eqItems_row (d + 1) X Y i hi w (List.range 16) (fun k hk => List.mem_range.1 hk)
    rw [List.all_cons]
    exact eqItems_step (p1 X) (p1 Y) p3 ih
theorem eq_dots (X Y : Nat → Nat) (w : World) : (Op.equal 49 (.agg (wArr X)) (.agg (wArr Y))).run Tryz.prog w = .ok (eqX X Y) w := by
  obtain ⟨q, hq⟩ := info_some (show (Tryz.prog.info? 47).map (·.size) = some 16 by kernel_rfl)
  show (Op.equalIn 10000 49 (.agg (wArr X)) (.agg (wArr Y))).run Tryz.prog w = _
  rw [run_equalIn_array (P := Tryz.prog) w 9999 (wArr X) (wArr Y) Tryz.underlying49 hq, row_cells]
  exact eqItems_dots 9996 X Y w (List.range 5) (fun i hi => List.mem_range.1 hi)
theorem dots_noGuard (w : World) (x y : Operand) (X Y : Nat → Nat) : (eqGuard .eql 49 x y (.agg (wArr X)) (.agg (wArr Y))).run Tryz.prog w = .ok () w := by
  exact run_eqGuard_agg w .eql _ x y _ _ (by kernel_rfl)
section
variable {ev : Operand → Value} {d : Option Tmp} {ty : TypeId} {p : String} {af : Array Edge} {g : Option (Nat × Bool)} {w : World}
theorem o_eqDots {t' : TypeId} {x y : Operand} {X Y : Nat → Nat} {b : Bool} (hx : ev x = .agg (wArr X)) (hy : ev y = .agg (wArr Y)) (hb : eqX X Y = b) : (execOp ev (Oper.mk d (.binOp .eql 49 x y t') ty p af g)).run Tryz.prog w = .ok (.value (.bool b)) w := by
  subst hb
  have h1 := dots_noGuard w x y X Y
  have h2 := eq_dots X Y w
  unfold execOp
  simp only [hx, hy, Sem.run_bind, h1, Result.andThen_ok, binOp, h2]
  rfl
end
theorem r1_bk {w : World} {b : Nat} {V : List Int} {cs : Array Value} {t : TypeId} (h : Bk w b cs t) (hc : cs = (V.map (Value.int .i64)).toArray) : R1 w (.slice (some ⟨b, 0, none⟩) V.length V.length) V :=
  ⟨_, _, rfl, Nat.le_refl _, fun _ => ⟨b, 0, rfl, h.lt, fun i x hx => by
    rw [Nat.zero_add]
    exact h.cell i (by subst hc; simp [hx])⟩⟩
theorem knR_vec1 {w : World} {b : Nat} {x : Int} {t : TypeId} (h : Bk w b #[.int .i64 x] t) : KnR w (.agg #[.slice (some ⟨b, 0, none⟩) 1 1, .slice none 0 0]) [x] [] :=
  ⟨_, _, rfl, r1_bk (V := [x]) h rfl, Rd2.nil w, ⟨rfl, by simp [flat], .inl ⟨rfl, rfl⟩⟩⟩
end Go.Proofs.YtbpkfkljeibjoaaGreat
/- reedkeep.Within, set, knowBegun. -/
namespace Rm
open Go Go.RowKit Gx
def wi (k : Int) (n : Nat) : Nat := (k % 18446744073709551616).toNat % n
theorem wi_lt (k : Int) (n : Nat) (h : 0 < n) : wi k n < n := Nat.mod_lt _ h
def RdLL (w : World) (v : Value) (L : List (List Int)) : Prop :=
  ∃ a c, v = .slice a L.length c ∧ L.length ≤ c ∧ (L ≠ [] → ∃ b off, a = some ⟨b, off, none⟩ ∧ b < w.heap.size ∧ ∀ i x, L[i]? = some x → ∃ ua uc, w.cell? ⟨b, off + i * 1, none⟩ = some (.slice ua x.length uc) ∧ RdI1 w ua x)
theorem RdI1.gr {w w' : World} {a : Option Addr} {V : List Int} (h : RdI1 w a V) (g : Gr w w') : RdI1 w' a V := fun hn => by
  obtain ⟨b, off, h1, h2, h3⟩ := h hn
  exact ⟨b, off, h1, Nat.lt_of_lt_of_le h2 g.le, fun i x hx => (g.cells.1 b _ h2).trans (h3 i x hx)⟩
theorem RdLL.gr {w w' : World} {v : Value} {L : List (List Int)} (h : RdLL w v L) (g : Gr w w') : RdLL w' v L := by
  obtain ⟨a, c, e, hc, h⟩ := h
  refine ⟨a, c, e, hc, fun hn => ?_⟩
  obtain ⟨b, off, h1, h2, h3⟩ := h hn
  refine ⟨b, off, h1, Nat.lt_of_lt_of_le h2 g.le, fun i x hx => ?_⟩
  obtain ⟨ua, uc, q1, q2⟩ := h3 i x hx
  exact ⟨ua, uc, (g.cells.1 b _ h2).trans q1, q2.gr g⟩
def dotOf (c : List Int) : Option (Nat × Nat) := match c with
  | x :: y :: _ => some (wi x 5, 1 + wi y 12)
  | _ => none
def setN (L : List (List Int)) : List (Nat × Nat) := (L.take 40).filterMap dotOf
def setD (L : List (List Int)) : DS := fun s c => (setN L).contains (s, c)
theorem dotOf_in {c : List Int} {d : Nat × Nat} (h : dotOf c = some d) : d.1 < 5 ∧ 1 ≤ d.2 ∧ d.2 ≤ 12 := by
  match c, h with
  | x :: y :: _, h =>
    simp [dotOf] at h
    subst h
    have h1 := wi_lt x 5 (by omega)
    have h2 := wi_lt y 12 (by omega)
    simp only
    omega
theorem setN_in {L : List (List Int)} {d : Nat × Nat} (h : d ∈ setN L) : d.1 < 5 ∧ 1 ≤ d.2 ∧ d.2 ≤ 12 := by
  obtain ⟨c, _, hc⟩ := List.mem_filterMap.1 h
  exact dotOf_in hc
theorem setD_small (L : List (List Int)) : ∀ s c, setD L s c = true → s < 5 ∧ 1 ≤ c ∧ c ≤ 12 := fun s c h => by
  have : (s, c) ∈ setN L := by simpa [setD] using h
  exact setN_in this
end Rm
namespace Go.Proofs.YtbpkfkljeibjoaaGreat
open Go.RowKit Rm Gx
end Go.Proofs.YtbpkfkljeibjoaaGreat
/- An argument that is a slice of structs of two integers reads as a list. -/
namespace Go.Proofs.YtbpkfkljeibjoaaGreat
open Go.ChangeShapes Go.WideShapes Go.ChangeAt Go.RowKit Go.Deep Rm
theorem add_none {b off k : Nat} : (⟨b, off, none⟩ : Addr).add k = ⟨b, off + k, none⟩ := by
  unfold Addr.add
  by_cases h : k = 0 <;> simp [h]
theorem rd2_of {W : World} {a : Addr} {len cap : Nat} {V0 V1 : Nat → Value} (hl : len ≤ cap)
    (hc : ∀ i, i < len → W.cell? (a.add (i * 2)) = some (V0 i) ∧ W.cell? (a.add (i * 2 + 1)) = some (V1 i))
    (hi : ∀ i, i < len → ∃ x y : Int, V0 i = .int .i64 x ∧ V1 i = .int .i64 y) : ∃ l, Rd2 W (.slice (some a) len cap) l ∧ l.length = len := by
  have hi' : ∀ i, ∃ p : Int × Int, i < len → V0 i = .int .i64 p.1 ∧ V1 i = .int .i64 p.2 := by
    intro i
    by_cases h : i < len
    · obtain ⟨x, y, e⟩ := hi i h
      exact ⟨(x, y), fun _ => e⟩
    · exact ⟨(0, 0), fun h' => absurd h' h⟩
  refine ⟨(List.range len).map fun i => Classical.choose (hi' i), ⟨some a, cap, by simp, by simpa using hl, fun hne => ?_⟩, by simp⟩
  have h0 : 0 < len := by
    rcases Nat.eq_zero_or_pos len with h | h
    · subst h; simp at hne
    · exact h
  obtain ⟨b, off, spot⟩ := a
  have hc0 := (hc 0 h0).1
  have hspot : spot = none := by simpa [Addr.add] using World.cell?_spot hc0
  subst hspot
  have hlt : b < W.heap.size := by
    have := block_lt_of_cell hc0
    simpa [Addr.add] using this
  refine ⟨b, off, rfl, hlt, fun i p hp => ?_⟩
  have hil : i < len := by
    have := (List.getElem?_eq_some_iff.1 hp).1
    simpa using this
  have hp' : p = Classical.choose (hi' i) := by
    simp [List.getElem?_map, List.getElem?_range hil] at hp
    exact hp.symm
  obtain ⟨e1, e2⟩ := Classical.choose_spec (hi' i) hil
  obtain ⟨q1, q2⟩ := hc i hil
  rw [add_none] at q1 q2
  rw [hp']
  exact ⟨q1.trans (congrArg some e1), by rw [Nat.add_assoc]; exact q2.trans (congrArg some e2)⟩
end Go.Proofs.YtbpkfkljeibjoaaGreat
/- An argument that is a set of dots, or a dot, reads as plain data. -/
namespace Go.Proofs.YtbpkfkljeibjoaaGreat
open Go.ChangeShapes Go.WideShapes Go.ChangeAt Go.RowKit Go.Deep Rm
section
variable {H : Type} {enc : TypeId × Value → H} {W : World} {base : Nat} {spare : Nat → Bool} {held : Bool}
theorem kint_cells : Tryz.prog.cellsOf 3 = 1 := by kernel_rfl
theorem kints_cells : Tryz.prog.cellsOf 30 = 1 := by kernel_rfl
theorem kdots_cells : Tryz.prog.cellsOf 31 = 1 := by kernel_rfl
theorem know_cells : Tryz.prog.cellsOf 33 = 2 := by kernel_rfl
theorem flat_split (l : List (Int × Int)) (j : Nat) (u : Value) (h : (flat l)[j]? = some u) : ∃ i p, l[i]? = some p ∧ ((j = i * 2 ∧ u = .int .i64 p.1) ∨ (j = i * 2 + 1 ∧ u = .int .i64 p.2)) := by
  induction l generalizing j with
  | nil => simp [flat] at h
  | cons q l ih =>
    rw [flat_cons] at h
    match j, h with
    | 0, h => simp at h; exact ⟨0, q, rfl, .inl ⟨rfl, h.symm⟩⟩
    | 1, h => simp at h; exact ⟨0, q, rfl, .inr ⟨rfl, h.symm⟩⟩
    | j + 2, h =>
      obtain ⟨i, p, hp, hc⟩ := ih j (by simpa using h)
      exact ⟨i + 1, p, by simpa using hp, hc.imp (fun ⟨a, b⟩ => ⟨by omega, b⟩) (fun ⟨a, b⟩ => ⟨by omega, b⟩)⟩
theorem rdC_of2 {W : World} {a : Addr} {n c : Nat} {l : List (Int × Int)} (h : Rd2 W (.slice (some a) n c) l) : RdC 2 W (.slice (some a) n c) l.length (flat l) := by
  obtain ⟨a', c', e, hc, hx⟩ := h
  cases e
  refine ⟨flat_len l, flat_one l, .inr ⟨a, c, rfl, hc, fun hn => ?_, fun j u hj => ?_⟩⟩
  · obtain ⟨b, off, e, hb, _⟩ := hx (by rintro rfl; exact hn rfl)
    cases e; exact hb
  · obtain ⟨i, p, hp, hc⟩ := flat_split l j u hj
    obtain ⟨b, off, e, hb, hcl⟩ := hx (by rintro rfl; simp at hp)
    cases e
    rw [add_none]
    obtain ⟨h1, h2⟩ := hcl i p hp
    rcases hc with ⟨rfl, rfl⟩ | ⟨rfl, rfl⟩
    · exact h1
    · exact h2
set_option maxRecDepth 100000 in
theorem dots_trod {fuel : Nat} {cs : List Value} {x : DataW H × List MemPlace} (h : DataW.trod enc Tryz.prog W base spare held fuel 31 cs = some x) : ∃ v l, cs = [v] ∧ Rd2 W v l ∧ RdC 2 W v l.length (flat l) := by
  rcases open_slice_pairs Tryz.underlying31 Tryz.underlying55 (by kernel_rfl) rfl rfl (by kernel_rfl) (by kernel_rfl) h with ⟨rfl, _⟩ | ⟨a, len, cap, m, n, V0, V1, D0, D1, P0, P1, rfl, hb, hl, hm, hmm, hx, hcell⟩
  · exact ⟨_, [], rfl, Rd2.nil W, ⟨rfl, by simp [flat], .inl ⟨rfl, rfl⟩⟩⟩
  · have hlm : len ≤ m := by rw [hmm]; split <;> omega
    obtain ⟨l, hl', _⟩ := rd2_of (W := W) (a := a) (V0 := V0) (V1 := V1) hl (fun i hi => ⟨(hcell i (by omega)).1, (hcell i (by omega)).2.1⟩) (fun i hi => by
      obtain ⟨_, _, t0, t1⟩ := hcell i (by omega)
      obtain ⟨x, ex, _, _⟩ := DataW.trod_int Tryz.underlying3 t0
      obtain ⟨y, ey, _, _⟩ := DataW.trod_int Tryz.underlying3 t1
      simp at ex ey
      exact ⟨x, y, ex, ey⟩)
    exact ⟨_, l, rfl, hl', rdC_of2 hl'⟩
set_option maxRecDepth 100000 in
theorem kints_trod {fuel : Nat} {cs : List Value} {x : DataW H × List MemPlace} (h : DataW.trod enc Tryz.prog W base spare held fuel 30 cs = some x) : ∃ v l, cs = [v] ∧ R1 W v l := by
  rcases open_slice1 Tryz.underlying30 kint_cells h with ⟨rfl, _⟩ | ⟨a, len, cap, m, n, V, D, Pl, rfl, hb, hl, hm, hmm, hx, hcell⟩
  · exact ⟨_, [], rfl, R1.nil W⟩
  · have hlm : len ≤ m := by rw [hmm]; split <;> omega
    obtain ⟨q, hq⟩ := choose_lt (α := Int) (n := len) (p := fun i p => W.cell? (a.add i) = some (.int .i64 p)) (fun i hi => by
        obtain ⟨h1, h2⟩ := hcell i (by omega)
        obtain ⟨x, ex, _, _⟩ := DataW.trod_int Tryz.underlying3 h2
        simp at ex
        exact ⟨x, by rw [h1, ex]⟩)
    refine ⟨_, (List.range len).map q, rfl, ⟨some a, cap, by simp, by simpa using hl, fun hne => ?_⟩⟩
    have h0 : 0 < len := by
      rcases Nat.eq_zero_or_pos len with h | h
      · subst h; simp at hne
      · exact h
    obtain ⟨b, off, spot⟩ := a
    have hc0 := hq 0 h0
    have hspot : spot = none := by simpa [Addr.add] using World.cell?_spot hc0
    subst hspot
    have hlt : b < W.heap.size := by
      have := block_lt_of_cell hc0
      simpa [Addr.add] using this
    refine ⟨b, off, rfl, hlt, fun i p hp => ?_⟩
    have hil : i < len := by
      have := (List.getElem?_eq_some_iff.1 hp).1
      simpa using this
    have hp' : p = q i := by
      simp [List.getElem?_map, List.getElem?_range hil] at hp
      exact hp.symm
    subst hp'
    have q1 := hq i hil
    rw [add_none] at q1
    exact q1
set_option maxRecDepth 100000 in
theorem know_trod {fuel : Nat} {cs : List Value} {x : DataW H × List MemPlace} (h : DataW.trod enc Tryz.prog W base spare held fuel 33 cs = some x) : ∃ vv mv V M, cs = [vv, mv] ∧ R1 W vv V ∧ Rd2 W mv M ∧ RdC 2 W mv M.length (flat M) := by
  obtain ⟨xs, k, _, _, hlen, hxl, hf⟩ := DataW.trod_struct Tryz.underlying33 h
  rw [know_cells] at hlen
  have g0 : DataW.trod enc Tryz.prog W base spare held k 30 ((cs.drop 0).take (Tryz.prog.cellsOf 30)) = xs[0]? := hf 0 _ rfl
  have g1 : DataW.trod enc Tryz.prog W base spare held k 31 ((cs.drop 1).take (Tryz.prog.cellsOf 31)) = xs[1]? := hf 1 _ rfl
  rw [kints_cells] at g0
  rw [kdots_cells] at g1
  match xs, hxl, cs, hlen with
  | [y0, y1], _, [v0, v1], _ =>
    simp at g0 g1
    obtain ⟨vv, V, e0, h0⟩ := kints_trod g0
    obtain ⟨mv, M, e1, h1, h2⟩ := dots_trod g1
    simp at e0 e1
    subst e0 e1
    exact ⟨v0, v1, V, M, rfl, h0, h1, h2⟩
end
end Go.Proofs.YtbpkfkljeibjoaaGreat
/- Sets of small dots: joined, met, compared. -/
namespace Rm
open Go Go.RowKit Gx
def Sm (D : DS) : Prop := ∀ s c, D s c = true → s < 5 ∧ 1 ≤ c ∧ c ≤ 12
theorem Sm.or {D E : DS} (h : Sm D) (h' : Sm E) : Sm (orD D E) := fun s c q => by
  simp only [orD, Bool.or_eq_true] at q
  exact q.elim (h s c) (h' s c)
theorem Sm.and {D E : DS} (h : Sm D) : Sm (andD D E) := fun s c q => by
  simp only [andD, Bool.and_eq_true] at q
  exact h s c q.1
theorem Sm.set (L : List (List Int)) : Sm (setD L) := setD_small L
end Rm
namespace Go.Proofs.YtbpkfkljeibjoaaGreat
open Go.ChangeShapes Go.WideShapes Go.ChangeAt Go.RowKit Go.Deep Rm Gx
def KnD (w : World) (k : Value) (D : DS) : Prop := KnR w k (ints (formV D)) (pairs (formM D))
theorem KnD.gr {w w' : World} {k : Value} {D : DS} (h : KnD w k D) (g : Gr w w') : KnD w' k D := KnR.gr h g
theorem KnD.form {w : World} {k : Value} {D : DS} (h : KnD w k D) : ∃ va vc ma mc, k = .agg #[.slice va (ints (formV D)).length vc, .slice ma (pairs (formM D)).length mc] := by
  obtain ⟨va, vc, ma, mc, h, -, -⟩ := knr_form h
  exact ⟨va, vc, ma, mc, h⟩
section
variable {H : Type} {enc : TypeId × Value → H} {W : World} {base : Nat} {spare : Nat → Bool} {held : Bool}
theorem RdI1.of {w : World} {v : Value} {V : List Int} (h : R1 w v V) : ∃ a c, v = .slice a V.length c ∧ V.length ≤ c ∧ RdI1 w a V := by
  obtain ⟨a, c, e, hc, h⟩ := h
  refine ⟨a, c, e, hc, fun hn => ?_⟩
  obtain ⟨b, off, e, hb, hx⟩ := h hn
  exact ⟨b, off, e, hb, fun i x h => by rw [Nat.mul_one]; exact hx i x h⟩
end
end Go.Proofs.YtbpkfkljeibjoaaGreat
/- Sets of small dots: within, has, count. -/
namespace Rm
open Go Go.RowKit Gx
def wS (D E : DS) : Bool := withB (formV D) (formV E) (formM D) (formM E)
theorem wS_iff (D E : DS) : wS D E = true ↔ subD D E := by
  unfold wS
  rw [withB_iff (form_ok D) (form_ok E)]
  constructor
  · intro h s c i hd
    have := h s c i (by rw [form_mem D s c i]; exact hd)
    rwa [form_mem E s c i] at this
  · intro h s c i hd
    rw [form_mem D s c i] at hd
    rw [form_mem E s c i]
    exact h s c i hd
end Rm
namespace Go.Proofs.YtbpkfkljeibjoaaGreat
open Go.RowKit Rm Gx
end Go.Proofs.YtbpkfkljeibjoaaGreat
/- Sets of dots gathered row by row; counts. -/
namespace Rm
open Go Go.RowKit Gx
def Sn (D : DS) : Prop := ∃ b, ∀ s c, D s c = true → s < 5 ∧ 1 ≤ c ∧ c ≤ 1000 ∧ (c ≤ 12 ∨ c = b)
theorem Sm.sn {D : DS} (h : Sm D) : Sn D := ⟨0, fun s c q => by have := h s c q; omega⟩
theorem Sm.add {D : DS} (h : Sm D) {a b : Nat} (i : a < 5 ∧ 1 ≤ b ∧ b ≤ 12) : Sm (addD D a b) := fun s c q => by
  simp only [addD, Bool.or_eq_true, decide_eq_true_eq] at q
  rcases q with q | ⟨rfl, rfl⟩
  · exact h s c q
  · exact i
theorem cp_or (f g : Nat → Bool) (l : List Nat) : List.countP (fun c => f c || g c) l ≤ List.countP f l + List.countP g l := by
  induction l with
  | nil => simp
  | cons a l ih =>
    simp only [List.countP_cons]
    cases f a <;> cases g a <;> simp <;> omega
theorem one_small (b : Nat) : ((List.range 1001).filter fun c => decide (c = b)).length ≤ 1 := by
  have h : ((List.range 1001).filter fun c => decide (c = b)) = ((List.range 1001).filter fun c => c == b) := by
    congr 1
  rw [h]
  have := List.count_range (n := 1001) (a := b)
  rw [← List.countP_eq_length_filter]
  have e : List.countP (fun c => c == b) (List.range 1001) = List.count b (List.range 1001) := rfl
  rw [e, this]
  split <;> omega
theorem Sn.form {D : DS} (h : Sn D) : (formM D).length ≤ 60 := by
  obtain ⟨b, h⟩ := h
  have key : ∀ s, (restD D s).length ≤ 12 := by
    intro s
    unfold restD
    rw [List.length_map]
    have h1 : ((List.range 1001).filter fun c => decide (run D s + 2 ≤ c) && D s c).length ≤ ((List.range 1001).filter fun c => decide (2 ≤ c ∧ c ≤ 12) || decide (c = b)).length := by
      rw [← List.countP_eq_length_filter, ← List.countP_eq_length_filter]
      apply List.countP_mono_left
      intro c _ hc
      simp only [Bool.and_eq_true, Bool.or_eq_true, decide_eq_true_eq] at hc ⊢
      have := h s c hc.2
      omega
    have h2 : ((List.range 1001).filter fun c => decide (2 ≤ c ∧ c ≤ 12) || decide (c = b)).length ≤ ((List.range 1001).filter fun c => decide (2 ≤ c ∧ c ≤ 12)).length + ((List.range 1001).filter fun c => decide (c = b)).length := by
      rw [← List.countP_eq_length_filter, ← List.countP_eq_length_filter, ← List.countP_eq_length_filter]
      exact cp_or _ _ _
    have h3 : ((List.range 1001).filter fun c => decide (2 ≤ c ∧ c ≤ 12)).length ≤ 11 := by decide +kernel
    have h4 := one_small b
    omega
  have k0 := key 0
  have k1 := key 1
  have k2 := key 2
  have k3 := key 3
  have k4 := key 4
  show ((List.range 5).flatMap (restD D)).length ≤ 60
  have e : (List.range 5).flatMap (restD D) = restD D 0 ++ restD D 1 ++ restD D 2 ++ restD D 3 ++ restD D 4 := by
    rw [show List.range 5 = [0, 1, 2, 3, 4] from rfl]
    simp [List.flatMap_cons, List.append_assoc]
  rw [e]
  simp only [List.length_append]
  omega
/-! counts -/
theorem Sm.inR {D : DS} (h : Sm D) : ∀ s c, D s c = true → inR s c := fun s c q => by
  have := h s c q
  exact ⟨this.1, this.2.1, by omega⟩
theorem Sn.inR {D : DS} (h : Sn D) : ∀ s c, D s c = true → Rm.inR s c := fun s c q => by
  obtain ⟨b, h⟩ := h
  have := h s c q
  exact ⟨this.1, this.2.1, this.2.2.1⟩
end Rm
namespace Go.Proofs.YtbpkfkljeibjoaaGreat
open Go.RowKit Rm Gx
theorem KnD.congr {w : World} {k : Value} {D E : DS} (h : KnD w k D) (e : EqD D E) : KnD w k E := by
  obtain ⟨h1, h2⟩ := form_congr e
  unfold KnD
  rw [← h1, ← h2]
  exact h
/-! what outlives stores into two blocks -/
def Near (b1 b2 : Nat) (w w' : World) : Prop := w.heap.size ≤ w'.heap.size ∧ ∀ b : Nat, b < w.heap.size → b ≠ b1 → b ≠ b2 → w'.heap[b]? = w.heap[b]?
theorem Near.refl {b1 b2 : Nat} (w : World) : Near b1 b2 w w := ⟨Nat.le_refl _, fun _ _ _ _ => rfl⟩
theorem Near.trans {b1 b2 : Nat} {w w' w'' : World} (h : Near b1 b2 w w') (k : Near b1 b2 w' w'') : Near b1 b2 w w'' :=
  ⟨Nat.le_trans h.1 k.1, fun b hb h1 h2 => (k.2 b (Nat.lt_of_lt_of_le hb h.1) h1 h2).trans (h.2 b hb h1 h2)⟩
theorem Near.gr {b1 b2 : Nat} {w w' : World} (g : Gr w w') : Near b1 b2 w w' := ⟨g.size, fun b hb _ _ => Below.block g b hb⟩
def KnS (b1 b2 : Nat) (w : World) (k : Value) (D : DS) : Prop := ∀ w', Near b1 b2 w w' → KnD w' k D
theorem KnS.here {b1 b2 : Nat} {w : World} {k : Value} {D : DS} (h : KnS b1 b2 w k D) : KnD w k D := h w (Near.refl w)
theorem KnS.gr {b1 b2 : Nat} {w w' : World} {k : Value} {D : DS} (h : KnS b1 b2 w k D) (g : Gr w w') : KnS b1 b2 w' k D := fun w'' q => h w'' ((Near.gr g).trans q)
theorem KnS.congr {b1 b2 : Nat} {w : World} {k : Value} {D E : DS} (h : KnS b1 b2 w k D) (e : EqD D E) : KnS b1 b2 w k E := fun w' q => (h w' q).congr e
theorem KnS.form {b1 b2 : Nat} {w : World} {k : Value} {D : DS} (h : KnS b1 b2 w k D) : ∃ va vc ma mc, k = .agg #[.slice va (ints (formV D)).length vc, .slice ma (pairs (formM D)).length mc] := h.here.form
end Go.Proofs.YtbpkfkljeibjoaaGreat
