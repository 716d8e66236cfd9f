/- The document's Form: a set of dots in its form. -/
import Derived.Test.YtghjfakellaecaaGxO
import Derived.Test.YtghjfakellaecaaKnX2
import Derived.Test.YtghjfakellaecaaKnY
set_option linter.unusedVariables false
set_option linter.unusedSimpArgs false
namespace Rm
open Go Go.RowKit
theorem run_is {D : DS} {s n : Nat} (h1 : ∀ c, 1 ≤ c → c ≤ n → D s c = true) (h2 : n = 1000 ∨ D s (n + 1) = false) (hn : n ≤ 1000) : run D s = n := by
  have hle := run_le D s
  rcases Nat.lt_trichotomy (run D s) n with q | q | q
  · have := runTo_gap D s 1000 (show run D s < 1000 by omega)
    rw [show runTo D s 1000 = run D s from rfl, h1 (run D s + 1) (by omega) (by omega)] at this
    cases this
  · exact q
  · rcases h2 with e | e
    · omega
    · have := runTo_all D s 1000 (n + 1) (by omega) (show n + 1 ≤ run D s by omega)
      rw [this] at e; cases e
def runsTo (D : DS) (i : Nat) : List Nat := (List.range i).map (run D)
theorem runsTo_succ (D : DS) (i : Nat) : runsTo D (i + 1) = runsTo D i ++ [run D i] := by simp [runsTo, List.range_succ]
theorem runsTo_len (D : DS) (i : Nat) : (runsTo D i).length = i := by simp [runsTo]
/-- the dots behind the vector, of the first i sites -/
def restTo (D : DS) (i : Nat) : List (Nat × Nat) := (List.range i).flatMap (restD D)
theorem restTo_succ (D : DS) (i : Nat) : restTo D (i + 1) = restTo D i ++ restD D i := by simp [restTo, List.range_succ]
/-- .. of one site, below a count -/
def restB (D : DS) (s c : Nat) : List (Nat × Nat) := ((List.range c).filter fun x => decide (run D s + 2 ≤ x) && D s x).map fun x => (s, x)
theorem restB_all (D : DS) (s : Nat) : restB D s 1001 = restD D s := rfl
theorem restB_start (D : DS) (s c : Nat) (h : c ≤ run D s + 2) : restB D s c = [] := by
  unfold restB
  rw [List.filter_eq_nil_iff.2]
  · rfl
  · intro x hx
    have := List.mem_range.1 hx
    simp; omega
theorem restB_yes {D : DS} {s c : Nat} (h : run D s + 2 ≤ c) (hd : D s c = true) : restB D s (c + 1) = restB D s c ++ [(s, c)] := by
  unfold restB
  rw [List.range_succ, List.filter_append]
  simp [h, hd]
theorem restB_no {D : DS} {s c : Nat} (hd : D s c = false) : restB D s (c + 1) = restB D s c := by
  unfold restB
  rw [List.range_succ, List.filter_append]
  simp [hd]
theorem restB_len (D : DS) (s c : Nat) : (restB D s c).length ≤ c := by
  unfold restB
  rw [List.length_map]
  exact Nat.le_trans (List.length_filter_le _ _) (by simp)
theorem restTo_len (D : DS) (i : Nat) : (restTo D i).length ≤ i * 1001 := by
  induction i with
  | zero => simp [restTo]
  | succ i ih =>
    rw [restTo_succ, List.length_append]
    have := restB_len D i 1001
    rw [restB_all] at this
    omega
set_option maxRecDepth 20000 in
theorem five_runs (D : DS) : five (runsTo D 5) = runsTo D 5 := by
  simp [five, runsTo, cv, List.range_succ]
theorem all_snoc {D : DS} {i n : Nat} (h : ∀ c, 1 ≤ c → c ≤ n → D i c = true) (k : D i (n + 1) = true) : ∀ c, 1 ≤ c → c ≤ n + 1 → D i c = true := by
  intro c h1 h2
  by_cases e : c = n + 1
  · subst e; exact k
  · exact h c h1 (by omega)
theorem rest_end (D : DS) (i c : Nat) {n : Nat} (h1 : n + 2 ≤ c) (h2 : c = 1001 ∨ 1001 < c ∧ c = n + 2) (hR : run D i = n) : restTo D i ++ restB D i c = restTo D (i + 1) := by
  have key : restB D i c = restD D i := by
    rcases h2 with e | ⟨e, e'⟩
    · rw [e, restB_all]
    · rw [← restB_all, restB_start D i c (by omega), restB_start D i 1001 (by omega)]
  rw [restTo_succ, key]
theorem rest_len (D : DS) (i c : Nat) (hi : i < 5) (hc : c ≤ 1001) : (restTo D i ++ restB D i c).length ≤ 6100 := by
  have := restTo_len D i
  have := restB_len D i c
  rw [List.length_append]; omega
theorem restB_app (D : DS) (i c : Nat) (h : run D i + 2 ≤ c) (hd : D i c = true) : (restTo D i ++ restB D i (c + 1)).length = (restTo D i ++ restB D i c).length + 1 ∧ restTo D i ++ restB D i (c + 1) = (restTo D i ++ restB D i c) ++ [(i, c)] := by
  rw [restB_yes h hd, ← List.append_assoc]
  exact ⟨by rw [List.length_append]; rfl, rfl⟩
theorem zero_back {D : DS} {q : Nat} (h : ∀ s, q ≤ s → s < 5 → cv (runsTo D 5) s = 0) (h0 : run D (q - 1) = 0) (hq : 0 < q) (hq5 : q ≤ 5) : ∀ s, q - 1 ≤ s → s < 5 → cv (runsTo D 5) s = 0 := by
  intro s h1 h2
  by_cases e : s = q - 1
  · subst e
    simp [cv, runsTo, List.getD, h2, h0]
  · exact h s (by omega) h2
theorem form_vec (D : DS) (q : Nat) (hq : q ≤ 5) (hz : ∀ s, q ≤ s → s < 5 → cv (runsTo D 5) s = 0) (h : q = 0 ∨ (0 < q ∧ run D (q - 1) ≠ 0)) : formV D = (runsTo D 5).take q := by
  show trimL (runsTo D 5) = _
  have h5 : five (runsTo D 5) = runsTo D 5 := five_runs D
  rw [← h5, trim_take (runsTo D 5) q hq hz ?_]
  rcases h with e | ⟨e, e'⟩
  · exact .inl e
  · refine .inr ?_
    have : cv (runsTo D 5) (q - 1) = run D (q - 1) := by
      have : q - 1 < 5 := by omega
      simp [cv, runsTo, List.getD, this]
    rw [this]; exact e'
end Rm
namespace Go.Proofs.Ytghjfakellaecaa
open Go.RowKit Rm Gx
theorem flatI_snoc (V : List Nat) (n : Nat) : flatI V ++ [.int .i64 (n : Int)] = flatI (V ++ [n]) := by simp [flatI]
theorem flatD_snoc (M : List (Nat × Nat)) (s c : Nat) : flat (pairs M) ++ [.int .i64 (s : Int), .int .i64 (c : Int)] = flat (pairs (M ++ [(s, c)])) := by simp [pairs, flat]
theorem bk_cells {w : World} {b : Nat} {cs : List Value} {t : TypeId} (h : Bk w b cs.toArray t) : ∀ j u, cs[j]? = some u → w.cell? ((⟨b, 0, none⟩ : Addr).add j) = some u := by
  intro j u hj
  rw [Gx.add_n, Nat.zero_add]
  exact h.cell j (by simpa using hj)
theorem runs_take_at (D : DS) {q j : Nat} (h : j < q) (hq : q ≤ 5) : (flatI ((runsTo D 5).take q))[0 + j * 1]? = some (.int .i64 ((run D j : Nat) : Int)) := by
  rw [Nat.zero_add, Nat.mul_one]
  unfold flatI
  rw [List.getElem?_map, List.getElem?_take_of_lt h]
  have : j < 5 := by omega
  simp [runsTo, this]
theorem own_cut_runs (D : DS) {w : World} {base : Nat} {e : TypeId} {q k c : Nat} {a : Option Addr} (hk : k ≤ q) (h : w.ownsRow base e 1 (.slice a q c) q (flatI ((runsTo D 5).take q))) : w.ownsRow base e 1 (.slice a k c) k (flatI ((runsTo D 5).take k)) := by
  have := ow_cut h hk
  rw [Nat.mul_one] at this
  have e2 : (flatI ((runsTo D 5).take q)).take k = flatI ((runsTo D 5).take k) := by
    unfold flatI
    rw [← List.map_take, List.take_take, Nat.min_eq_left hk]
  rwa [e2] at this
theorem own_take_len (D : DS) {w : World} {base : Nat} {e : TypeId} {q c : Nat} {a : Option Addr} (h : w.ownsRow base e 1 (.slice a q c) q (flatI ((runsTo D 5).take q))) : w.ownsRow base e 1 (.slice a q c) ((runsTo D 5).take q).length (flatI ((runsTo D 5).take q)) := by
  have h1 := h.1
  have : ((runsTo D 5).take q).length = q := by rw [flatI_len, Nat.mul_one] at h1; exact h1
  rw [this]; exact h
theorem leI_dec (n : Nat) : decide ((n : Int) ≤ 60) = decide (n ≤ 60) := by rw [Bool.eq_iff_iff]; simp only [decide_eq_true_eq]; omega
theorem own_cap {w : World} {base : Nat} {e : TypeId} {s n c : Nat} {a : Option Addr} {xs : List Value} (h : w.ownsRow base e s (.slice a n c) n xs) : n ≤ c := by
  obtain ⟨a', c', e, h⟩ := ow_form h
  injection e with _ _ e3
  omega
set_option maxHeartbeats 8000000 in
set_option maxRecDepth 100000 in
theorem rform_any (X : Nat → Nat) (hX : OkX X) (w : World) :
    Calls Try.prog 89 #[.agg (wArr X)] w fun e w' => ∃ k, e = .returned (.tuple #[k, .bool (decide ((formM (dsX X)).length ≤ 60))]) ∧ KnO w.heap.size w' k (formV (dsX X)) (formM (dsX X)) ∧ Gr w w' := by
  refine enter (N := 77) Try.func89 rfl rfl rfl (fun a0 ok0 h0 => ?_)
  have e0_0 : a0.eval (.tmp 0) = .agg (wArr X) := h0 0 _ rfl
  clear h0
  have G0 := Gr.refl w
  refine wp_seq_k (fun K1 hK1 => ?_)
  refine wp_region_lit ?_
  refine sal (cs := wArr X) ok0 rfl (wn _ rfl) rfl (o_box e0_0) (fun an2 w4 b3 W5 n2 => ?_)
  have l6 : w.heap.size ≤ b3 := by rw [W5.eq]; exact G0.size
  have G7 := G0.trans W5.gr
  refine sal (cs := #[.slice none 0 0, .slice none 0 0]) n2.ok rfl (wn _ rfl) rfl (o_al (z := .agg #[.slice none 0 0, .slice none 0 0]) (by kernel_rfl)) (fun an8 w10 b9 W11 n8 => ?_)
  have l12 : b3 < b9 := by rw [W11.eq]; exact W5.bk.lt
  have l13 : w.heap.size ≤ b9 := by rw [W11.eq]; exact G7.size
  have G14 := G7.trans W11.gr
  have B15 := W5.bk.gr W11.gr
  refine sv n8.ok rfl (wn _ rfl) rfl (o_as ev_const) (fun an16 n16 => ?_)
  refine wpList_nil ?_
  refine th_n (hK1 _ _ ?_)
  refine wp_seq_k (fun K17 hK17 => ?_)
  refine wp_region_lit ?_
  refine sal (cs := #[.slice none 0 0, .slice none 0 0]) n16.ok rfl (wn _ rfl) rfl (o_al (z := .agg #[.slice none 0 0, .slice none 0 0]) (by kernel_rfl)) (fun an18 w20 b19 W21 n18 => ?_)
  have l22 : b3 < b19 := by rw [W21.eq]; exact B15.lt
  have l23 : b9 < b19 := by rw [W21.eq]; exact W11.bk.lt
  have l24 : w.heap.size ≤ b19 := by rw [W21.eq]; exact G14.size
  have G25 := G14.trans W21.gr
  have B26 := B15.gr W21.gr
  have B27 := W11.bk.gr W21.gr
  refine wpList_nil ?_
  refine th_n (hK17 _ _ ?_)
  refine wp_seq_k (fun K28 hK28 => ?_)
  refine wp_seq_k (fun K29 hK29 => ?_)
  refine wp_region_lit ?_
  refine sv n18.ok rfl (wn _ rfl) rfl (o_mv ev_const) (fun an30 n30 => ?_)
  refine wpList_nil ?_
  refine th_n (hK29 _ _ ?_)
  refine wp_block ?_
  obtain ⟨h1, z31⟩ : ∃ n, n = w20.heap.size := ⟨_, rfl⟩
  have l32 : b3 < h1 := by rw [z31]; exact B26.lt
  have l33 : b9 < h1 := by rw [z31]; exact B27.lt
  have l34 : b19 < h1 := by rw [z31]; exact W21.bk.lt
  have l35 : w.heap.size ≤ h1 := by rw [z31]; exact G25.size
  have z36 : h1 ≤ w20.heap.size := Nat.le_of_eq z31
  have O37 := World.ownsRow_nil w20 h1 3 1
  have O38 := World.ownsRow_nil w20 h1 26 2
  have e40 := n30.ne rfl (n18.ne rfl (n16.ne rfl (n8.ne rfl n2.at_)))
  have e41 := n30.ne rfl (n18.ne rfl (n16.ne rfl n8.at_))
  refine lp (fun (nL : Nat) (aL : Act) (wL : World) => ∃ i : Nat, ∃ va : Option Addr, ∃ vc : Nat, ∃ ma : Option Addr, ∃ mc : Nat, nL = 5 - i ∧ Ok 77 aL ∧ Gr w wL ∧ (aL.eval (.tmp 1) = .pointer (some ⟨b3, 0, none⟩)) ∧ (aL.eval (.tmp 2) = .pointer (some ⟨b9, 0, none⟩)) ∧ (aL.eval (.tmp 3) = .bool false) ∧ (aL.eval (.tmp 4) = .pointer (some ⟨b19, 0, none⟩)) ∧ (aL.eval (.tmp 9) = .int .i64 (i : Int)) ∧ (Bk wL b3 (wArr X) 86) ∧ (Bk wL b9 #[.slice none 0 0, .slice none 0 0] 35) ∧ (Bk wL b19 #[.slice va i vc, .slice ma ((restTo (dsX X) (i)).length) mc] 35) ∧ (World.ownsRow wL h1 3 1 (.slice va i vc) (i) (flatI (runsTo (dsX X) i))) ∧ (World.ownsRow wL h1 26 2 (.slice ma ((restTo (dsX X) (i)).length) mc) ((restTo (dsX X) (i)).length) (flat (pairs (restTo (dsX X) i)))) ∧ (h1 ≤ wL.heap.size) ∧ (i ≤ 5)) _ ⟨0, none, 0, none, 0, rfl, n30.ok, G25, e40, e41, (n30.ne rfl (n18.ne rfl n16.at_)), (n30.ne rfl n18.at_), n30.at_, B26, B27, W21.bk, O37, O38, z36, by omega⟩ ?_
  rintro m42 aI39 w44 ⟨i, va, vc, ma, mc, hmI39, okI39, GI39, s1I39, s2I39, s3I39, s4I39, s9I39, kb3I39, kb9I39, kb19I39, oVI39, oMI39, zh1I39, hiI39⟩ KI39 hKI39
  refine wp_seq_k (fun K45 hK45 => ?_)
  refine wp_region_lit ?_
  refine sv okI39 rfl (wn _ rfl) rfl (o_ltI s9I39 ev_const) (fun an46 n46 => ?_)
  refine wpList_nil ?_
  refine th_n (hK45 _ _ ?_)
  refine wp_seq_k (fun K47 hK47 => ?_)
  by_cases c48 : (i : Int) < 5
  · refine wp_cond_true ((n46.at_).trans (congrArg Value.bool (decide_eq_true c48))) ?_
    refine wp_skip ?_
    refine th_n (hK47 _ _ ?_)
    refine wp_seq_k (fun K49 hK49 => ?_)
    refine wp_block ?_
    refine wp_seq_k (fun K50 hK50 => ?_)
    refine wp_region_lit ?_
    refine sv n46.ok rfl (wn _ rfl) rfl (o_mv (n46.ne rfl s9I39)) (fun an51 n51 => ?_)
    refine sv n51.ok rfl (wn _ rfl) rfl (o_as n51.at_) (fun an52 n52 => ?_)
    refine wpList_nil ?_
    refine th_n (hK50 _ _ ?_)
    refine wp_seq_k (fun K53 hK53 => ?_)
    refine wp_region_lit ?_
    refine sv n52.ok rfl (wn _ rfl) rfl (o_as ev_const) (fun an54 n54 => ?_)
    refine wpList_nil ?_
    refine th_n (hK53 _ _ ?_)
    refine wp_seq_k (fun K55 hK55 => ?_)
    refine wp_block ?_
    have e57 := n54.ne rfl (n52.ne rfl (n51.ne rfl (n46.ne rfl s1I39)))
    have e58 := n54.ne rfl (n52.ne rfl (n51.ne rfl (n46.ne rfl s2I39)))
    have e59 := n54.ne rfl (n52.ne rfl (n51.ne rfl (n46.ne rfl s3I39)))
    have e60 := n54.ne rfl (n52.ne rfl (n51.ne rfl (n46.ne rfl s4I39)))
    have e61 := n54.ne rfl (n52.ne rfl (n51.ne rfl (n46.ne rfl s9I39)))
    refine lp (fun (nL : Nat) (aL : Act) (wL : World) => ∃ n : Nat, nL = 1000 - n ∧ Ok 77 aL ∧ Gr w wL ∧ (aL.eval (.tmp 1) = .pointer (some ⟨b3, 0, none⟩)) ∧ (aL.eval (.tmp 2) = .pointer (some ⟨b9, 0, none⟩)) ∧ (aL.eval (.tmp 3) = .bool false) ∧ (aL.eval (.tmp 4) = .pointer (some ⟨b19, 0, none⟩)) ∧ (aL.eval (.tmp 5) = .int .i64 (i : Int)) ∧ (aL.eval (.tmp 6) = .int .i64 (n : Int)) ∧ (aL.eval (.tmp 9) = .int .i64 (i : Int)) ∧ (Bk wL b3 (wArr X) 86) ∧ (Bk wL b9 #[.slice none 0 0, .slice none 0 0] 35) ∧ (Bk wL b19 #[.slice va i vc, .slice ma ((restTo (dsX X) (i)).length) mc] 35) ∧ (World.ownsRow wL h1 3 1 (.slice va i vc) (i) (flatI (runsTo (dsX X) i))) ∧ (World.ownsRow wL h1 26 2 (.slice ma ((restTo (dsX X) (i)).length) mc) ((restTo (dsX X) (i)).length) (flat (pairs (restTo (dsX X) i)))) ∧ (h1 ≤ wL.heap.size) ∧ (n ≤ 1000) ∧ (∀ c, 1 ≤ c → c ≤ n → (dsX X) i c = true)) _ ⟨0, rfl, n54.ok, GI39, e57, e58, e59, e60, (n54.ne rfl n52.at_), n54.at_, e61, kb3I39, kb9I39, kb19I39, oVI39, oMI39, zh1I39, by omega, fun c h1 h2 => by omega⟩ ?_
    rintro m62 aI56 w64 ⟨n, hmI56, okI56, GI56, s1I56, s2I56, s3I56, s4I56, s5I56, s6I56, s9I56, kb3I56, kb9I56, kb19I56, oVI56, oMI56, zh1I56, hnI56, hallI56⟩ KI56 hKI56
    refine wp_seq_k (fun K65 hK65 => ?_)
    refine wp_seq_k (fun K66 hK66 => ?_)
    refine wp_region_lit ?_
    refine sv okI56 rfl (wn _ rfl) rfl (o_mv s6I56) (fun an67 n67 => ?_)
    refine sv n67.ok rfl (wn _ rfl) rfl (o_ltI n67.at_ ev_const) (fun an68 n68 => ?_)
    refine sv n68.ok rfl (wn _ rfl) rfl (o_mv n68.at_) (fun an69 n69 => ?_)
    by_cases c70 : (n : Int) < 1000
    · have e71 := (n69.at_).trans (congrArg Value.bool (decide_eq_true c70))
      have e72 := ((n69.ne rfl n68.at_)).trans (congrArg Value.bool (decide_eq_true c70))
      have e73 := n69.ne rfl (n68.ne rfl (n67.ne rfl s1I56))
      refine sv n69.ok rfl (wgT rfl (yl 2 true rfl e71) rfl) rfl (o_ldR e73 kb3I56 Try.underlying86 rfl (dots_sz X)) (fun an74 n74 => ?_)
      have e75 := n74.ne rfl (n69.ne rfl (n68.ne rfl (n67.ne rfl s5I56)))
      refine sv n74.ok rfl (wgT rfl (yl 2 true rfl (n74.ne rfl e71)) rfl) rfl (o_mv e75) (fun an76 n76 => ?_)
      have e77 := n76.ne rfl (n74.ne rfl (n69.ne rfl (n68.ne rfl (n67.ne rfl s6I56))))
      refine sv n76.ok rfl (wgT rfl (yl 2 true rfl (n76.ne rfl (n74.ne rfl e71))) rfl) rfl (o_mv e77) (fun an78 n78 => ?_)
      have e79 := n78.ne rfl (n76.ne rfl (n74.ne rfl e71))
      refine sv n78.ok rfl (wgT rfl (yl 2 true rfl e79) rfl) rfl (o_add (r := ((n + 1 : Nat) : Int)) n78.at_ ev_const (by omega) (by omega)) (fun an80 n80 => ?_)
      refine sv n80.ok rfl (wgT rfl (yl 2 true rfl (n80.ne rfl e79)) rfl) rfl (o_bd (cells := #[.int .i64 (i : Int), .int .i64 ((n + 1 : Nat) : Int)]) (vs := [(0, .int .i64 (i : Int)), (1, .int .i64 ((n + 1 : Nat) : Int))]) (by simp [(n80.ne rfl (n78.ne rfl n76.at_)), n80.at_, ev_const]) (by kernel_rfl)) (fun an81 n81 => ?_)
      have e82 := n81.ne rfl (n80.ne rfl (n78.ne rfl (n76.ne rfl n74.at_)))
      refine sc n81.ok rfl (wgT rfl (yl 2 true rfl (n81.ne rfl (n80.ne rfl e79))) rfl) rfl (o_f2 Try.func46 rfl rfl rfl e82 n81.at_) (rhas_any X (i) (n + 1) w64 hX (by omega) (by omega)) ?_
      rintro _ w84 ⟨rfl, g85⟩
      refine ⟨_, rfl, fun an83 n83 => ?_⟩
      have G86 := GI56.trans g85
      have B87 := kb3I56.gr g85
      have B88 := kb9I56.gr g85
      have B89 := kb19I56.gr g85
      have z90 := Nat.le_trans zh1I56 g85.size
      have O91 := ow_gr oVI56 g85
      have O92 := ow_gr oMI56 g85
      have e93 := n83.ne rfl (n81.ne rfl (n80.ne rfl e79))
      refine sv n83.ok rfl (wn _ rfl) rfl (o_pkT e93 n83.at_) (fun an94 n94 => ?_)
      refine wpList_nil ?_
      refine th_n (hK66 _ _ ?_)
      cases c95 : (dsX X (i) (n + 1))
      · refine wp_cond_false ((n94.at_).trans (congrArg Value.bool (c95))) ?_
        have hR : run (dsX X) i = n := run_is hallI56 (.inr c95) hnI56
        refine wp_exit ?_
        refine th_x ?_
        refine th_x ?_
        refine ib_x ?_
        refine th_n (hK55 _ _ ?_)
        refine wp_seq_k (fun K96 hK96 => ?_)
        refine wp_region_lit ?_
        have e97 := n94.ne rfl (n83.ne rfl (n81.ne rfl (n80.ne rfl (n78.ne rfl (n76.ne rfl (n74.ne rfl (n69.ne rfl (n68.ne rfl (n67.ne rfl s4I56)))))))))
        refine sv n94.ok rfl (wn _ rfl) rfl (o_fa (z := 1) e97 Try.underlying35 rfl (by kernel_rfl) rfl rfl) (fun an98 n98 => ?_)
        refine sv n98.ok rfl (wn _ rfl) rfl (o_ld n98.at_ (Try.isAgg32 _) (B89.cell _ rfl)) (fun an99 n99 => ?_)
        have e100 := n99.ne rfl (n98.ne rfl (n94.ne rfl (n83.ne rfl (n81.ne rfl (n80.ne rfl (n78.ne rfl e77))))))
        refine sv n99.ok rfl (wn _ rfl) rfl (o_mv e100) (fun an101 n101 => ?_)
        obtain ⟨i102, i102a, i102b, i102c⟩ := info3_of (show (Try.prog.info? 3).map (fun i => (i.zero, i.size)) = some (some (.int .i64 0), 1) by kernel_rfl)
        refine sals (cs := #[.int .i64 (n : Int)]) n101.ok rfl (wn _ rfl) rfl (o_bs (vs := [(0, .int .i64 (n : Int))]) (by simp [n101.at_, ev_const]) Try.underlying32 i102a i102b (by rw [i102c]; rfl) (by rw [i102c]; rfl) (by rw [i102c]; kernel_rfl)) (fun an103 w105 b104 W106 n103 => ?_)
        have l107 : b3 < b104 := by rw [W106.eq]; exact B87.lt
        have l108 : b9 < b104 := by rw [W106.eq]; exact B88.lt
        have l109 : b19 < b104 := by rw [W106.eq]; exact B89.lt
        have l110 : w.heap.size ≤ b104 := by rw [W106.eq]; exact G86.size
        have l111 : ∀ k, Value.ownBlock (.slice va i vc) = some k → k < b104 := fun k e => by rw [W106.eq]; exact ow_in O91 k e
        have l112 : ∀ k, Value.ownBlock (.slice ma ((restTo (dsX X) (i)).length) mc) = some k → k < b104 := fun k e => by rw [W106.eq]; exact ow_in O92 k e
        have G113 := G86.trans W106.gr
        have B114 := B87.gr W106.gr
        have B115 := B88.gr W106.gr
        have B116 := B89.gr W106.gr
        have z117 := Nat.le_trans z90 W106.gr.size
        have O118 := ow_gr O91 W106.gr
        have O119 := ow_gr O92 W106.gr
        obtain ⟨i120, i120a, i120b, i120c, i120d⟩ := info_of (show (Try.prog.info? 3).map (fun i => (i.zero, i.size, i.bytes)) = some (some (.int .i64 0), 1, 8) by kernel_rfl)
        refine s_app (base := h1) (n := i) (xs := flatI (runsTo (dsX X) i)) (m := 1) (news := [.int .i64 (n : Int)]) n103.ok (wn _ rfl) rfl Try.underlying32 i120a i120b i120c i120d rfl (by omega) (n103.ne rfl (n101.ne rfl n99.at_)) O118 n103.at_ rfl (fun j u hj => bk_cells W106.bk j u hj) (fun u hu => by simp at hu; subst hu; rfl) (by simp only [maxLen]; omega) (by omega) z117 (fun an121 w122 v123 O126 gg127 n121 => ?_)
        obtain ⟨a124, c125, rfl, c125l⟩ := ow_form O126
        have G128 := Gr.grown G113 gg127 (fun k e => Nat.le_trans l35 (ow_lt O118 k e))
        have B129 := B114.grown gg127 (ow_lt O118) l32
        have B130 := B115.grown gg127 (ow_lt O118) l33
        have B131 := B116.grown gg127 (ow_lt O118) l34
        have B132 := W106.bk.grown_ne gg127 l111
        have z133 := Nat.le_trans z117 gg127.size
        have O134 := ow_grown O119 O118 gg127 rfl
        have O135 : w122.ownsRow h1 3 1 (.slice a124 (i + 1) c125) (i + 1) (flatI (runsTo (dsX X) (i + 1))) := by rw [runsTo_succ, hR, ← flatI_snoc]; exact O126
        have e136 := n121.ne rfl (n103.ne rfl (n101.ne rfl (n99.ne rfl (n98.ne rfl e97))))
        refine sv n121.ok rfl (wn _ rfl) rfl (o_fa (z := 1) e136 Try.underlying35 rfl (by kernel_rfl) rfl rfl) (fun an137 n137 => ?_)
        refine ssC rfl (wn _ rfl) (o_st n137.at_ (n137.ne rfl n121.at_) B131 rfl (by kernel_rfl) rfl) B131 (fun w138 u139 u139b => ?_)
        have G140 : Gr w w138 := Below.upd G128 l24 u139
        have B141 := B129.upd u139 (Nat.ne_of_lt l22)
        have B142 := B130.upd u139 (Nat.ne_of_lt l23)
        have B143 := B132.upd u139 (Nat.ne_of_gt l109)
        have z144 : h1 ≤ w138.heap.size := by rw [u139.size]; exact z133
        have O145 := ow_upd O135 u139 l34
        have O146 := ow_upd O134 u139 l34
        refine wpList_nil ?_
        refine th_n (hK96 _ _ ?_)
        refine wp_seq_k (fun K147 hK147 => ?_)
        refine wp_region_lit ?_
        have e148 := n137.ne rfl (n121.ne rfl (n103.ne rfl (n101.ne rfl e100)))
        refine sv n137.ok rfl (wn _ rfl) rfl (o_mv e148) (fun an149 n149 => ?_)
        refine sv n149.ok rfl (wn _ rfl) rfl (o_add (r := ((n + 2 : Nat) : Int)) n149.at_ ev_const (by omega) (by omega)) (fun an150 n150 => ?_)
        refine sv n150.ok rfl (wn _ rfl) rfl (o_as n150.at_) (fun an151 n151 => ?_)
        refine wpList_nil ?_
        refine th_n (hK147 _ _ ?_)
        refine wp_block ?_
        have hst : restTo (dsX X) i ++ restB (dsX X) i (n + 2) = restTo (dsX X) i := by rw [restB_start (dsX X) i (n + 2) (by omega), List.append_nil]
        have e153 := n151.ne rfl (n150.ne rfl (n149.ne rfl (n137.ne rfl (n121.ne rfl (n103.ne rfl (n101.ne rfl (n99.ne rfl (n98.ne rfl (n94.ne rfl (n83.ne rfl (n81.ne rfl (n80.ne rfl (n78.ne rfl (n76.ne rfl (n74.ne rfl e73)))))))))))))))
        have e154 := n151.ne rfl (n150.ne rfl (n149.ne rfl (n137.ne rfl (n121.ne rfl (n103.ne rfl (n101.ne rfl (n99.ne rfl (n98.ne rfl (n94.ne rfl (n83.ne rfl (n81.ne rfl (n80.ne rfl (n78.ne rfl (n76.ne rfl (n74.ne rfl (n69.ne rfl (n68.ne rfl (n67.ne rfl s2I56))))))))))))))))))
        have e155 := n151.ne rfl (n150.ne rfl (n149.ne rfl (n137.ne rfl (n121.ne rfl (n103.ne rfl (n101.ne rfl (n99.ne rfl (n98.ne rfl (n94.ne rfl (n83.ne rfl (n81.ne rfl (n80.ne rfl (n78.ne rfl (n76.ne rfl (n74.ne rfl (n69.ne rfl (n68.ne rfl (n67.ne rfl s3I56))))))))))))))))))
        have e156 := n151.ne rfl (n150.ne rfl (n149.ne rfl (n137.ne rfl e136)))
        have e157 := n151.ne rfl (n150.ne rfl (n149.ne rfl (n137.ne rfl (n121.ne rfl (n103.ne rfl (n101.ne rfl (n99.ne rfl (n98.ne rfl (n94.ne rfl (n83.ne rfl (n81.ne rfl (n80.ne rfl (n78.ne rfl (n76.ne rfl e75))))))))))))))
        have e158 := n151.ne rfl (n150.ne rfl (n149.ne rfl (n137.ne rfl (n121.ne rfl (n103.ne rfl (n101.ne rfl (n99.ne rfl (n98.ne rfl (n94.ne rfl (n83.ne rfl (n81.ne rfl (n80.ne rfl (n78.ne rfl (n76.ne rfl (n74.ne rfl (n69.ne rfl (n68.ne rfl (n67.ne rfl s9I56))))))))))))))))))
        refine lp (fun (nL : Nat) (aL : Act) (wL : World) => ∃ c : Nat, ∃ ma : Option Addr, ∃ mc : Nat, nL = 1002 - c ∧ Ok 77 aL ∧ Gr w wL ∧ (aL.eval (.tmp 1) = .pointer (some ⟨b3, 0, none⟩)) ∧ (aL.eval (.tmp 2) = .pointer (some ⟨b9, 0, none⟩)) ∧ (aL.eval (.tmp 3) = .bool false) ∧ (aL.eval (.tmp 4) = .pointer (some ⟨b19, 0, none⟩)) ∧ (aL.eval (.tmp 5) = .int .i64 (i : Int)) ∧ (aL.eval (.tmp 7) = .int .i64 (c : Int)) ∧ (aL.eval (.tmp 9) = .int .i64 (i : Int)) ∧ (Bk wL b3 (wArr X) 86) ∧ (Bk wL b9 #[.slice none 0 0, .slice none 0 0] 35) ∧ (Bk wL b19 #[.slice a124 (i + 1) c125, .slice ma ((restTo (dsX X) i ++ restB (dsX X) i c).length) mc] 35) ∧ (World.ownsRow wL h1 3 1 (.slice a124 (i + 1) c125) (i + 1) (flatI (runsTo (dsX X) (i + 1)))) ∧ (World.ownsRow wL h1 26 2 (.slice ma ((restTo (dsX X) i ++ restB (dsX X) i c).length) mc) ((restTo (dsX X) i ++ restB (dsX X) i c).length) (flat (pairs (restTo (dsX X) i ++ restB (dsX X) i c)))) ∧ (h1 ≤ wL.heap.size) ∧ (n + 2 ≤ c) ∧ (c ≤ 1001 ∨ c = n + 2)) _ ⟨n + 2, ma, mc, rfl, n151.ok, G140, e153, e154, e155, e156, e157, n151.at_, e158, B141, B142, (by rw [hst]; exact u139b), O145, (by rw [hst]; exact O146), z144, by omega, by omega⟩ ?_
        rintro m159 aI152 w161 ⟨c, ma, mc, hmI152, okI152, GI152, s1I152, s2I152, s3I152, s4I152, s5I152, s7I152, s9I152, kb3I152, kb9I152, kb19I152, oVI152, oMI152, zh1I152, hc1I152, hc2I152⟩ KI152 hKI152
        refine wp_seq_k (fun K162 hK162 => ?_)
        refine wp_seq_k (fun K163 hK163 => ?_)
        refine wp_region_lit ?_
        refine sv okI152 rfl (wn _ rfl) rfl (o_mv s7I152) (fun an164 n164 => ?_)
        refine sv n164.ok rfl (wn _ rfl) rfl (o_leI n164.at_ ev_const) (fun an165 n165 => ?_)
        refine wpList_nil ?_
        refine th_n (hK163 _ _ ?_)
        by_cases c166 : (c : Int) ≤ 1000
        · refine wp_cond_true ((n165.at_).trans (congrArg Value.bool (decide_eq_true c166))) ?_
          refine wp_skip ?_
          refine th_n (hK162 _ _ ?_)
          refine wp_seq_k (fun K167 hK167 => ?_)
          refine wp_block ?_
          refine wp_seq_k (fun K168 hK168 => ?_)
          refine wp_region_lit ?_
          refine sv n165.ok rfl (wn _ rfl) rfl (o_mv (n165.ne rfl (n164.ne rfl s5I152))) (fun an169 n169 => ?_)
          have e170 := n169.ne rfl (n165.ne rfl (n164.ne rfl s7I152))
          refine sv n169.ok rfl (wn _ rfl) rfl (o_mv e170) (fun an171 n171 => ?_)
          refine sv n171.ok rfl (wn _ rfl) rfl (o_bd (cells := #[.int .i64 (i : Int), .int .i64 (c : Int)]) (vs := [(0, .int .i64 (i : Int)), (1, .int .i64 (c : Int))]) (by simp [(n171.ne rfl n169.at_), n171.at_, ev_const]) (by kernel_rfl)) (fun an172 n172 => ?_)
          refine sal (cs := #[.int .i64 0, .int .i64 0]) n172.ok rfl (wn _ rfl) rfl (o_al (z := .agg #[.int .i64 0, .int .i64 0]) (by kernel_rfl)) (fun an173 w175 b174 W176 n173 => ?_)
          have l177 : b3 < b174 := by rw [W176.eq]; exact kb3I152.lt
          have l178 : b9 < b174 := by rw [W176.eq]; exact kb9I152.lt
          have l179 : b19 < b174 := by rw [W176.eq]; exact kb19I152.lt
          have l180 : w.heap.size ≤ b174 := by rw [W176.eq]; exact GI152.size
          have l181 : ∀ k, Value.ownBlock (.slice a124 (i + 1) c125) = some k → k < b174 := fun k e => by rw [W176.eq]; exact ow_in oVI152 k e
          have l182 : ∀ k, Value.ownBlock (.slice ma ((restTo (dsX X) i ++ restB (dsX X) i c).length) mc) = some k → k < b174 := fun k e => by rw [W176.eq]; exact ow_in oMI152 k e
          have G183 := GI152.trans W176.gr
          have B184 := kb3I152.gr W176.gr
          have B185 := kb9I152.gr W176.gr
          have B186 := kb19I152.gr W176.gr
          have z187 := Nat.le_trans zh1I152 W176.gr.size
          have O188 := ow_gr oVI152 W176.gr
          have O189 := ow_gr oMI152 W176.gr
          refine ssR rfl (wn _ rfl) (o_stR n173.at_ (n173.ne rfl n172.at_) W176.bk (by kernel_rfl) rfl (by simp [Value.oneCell'])) W176.bk (fun w190 u191 u191b => ?_)
          have G192 : Gr w w190 := Below.upd G183 l180 u191
          have B193 := B184.upd u191 (Nat.ne_of_lt l177)
          have B194 := B185.upd u191 (Nat.ne_of_lt l178)
          have B195 := B186.upd u191 (Nat.ne_of_lt l179)
          have z196 : h1 ≤ w190.heap.size := by rw [u191.size]; exact z187
          have O197 := ow_upd_ne O188 u191 l181
          have O198 := ow_upd_ne O189 u191 l182
          refine wpList_nil ?_
          refine th_n (hK168 _ _ ?_)
          refine wp_seq_k (fun K199 hK199 => ?_)
          refine wp_region_lit ?_
          have e200 := n173.ne rfl (n172.ne rfl (n171.ne rfl (n169.ne rfl (n165.ne rfl (n164.ne rfl s1I152)))))
          refine sv n173.ok rfl (wn _ rfl) rfl (o_ldR e200 B193 Try.underlying86 rfl (dots_sz X)) (fun an201 n201 => ?_)
          refine sv n201.ok rfl (wn _ rfl) rfl (o_ldR (n201.ne rfl n173.at_) u191b Try.underlying26 rfl (by kernel_rfl)) (fun an202 n202 => ?_)
          refine sc n202.ok rfl (wn _ rfl) rfl (o_f2 Try.func46 rfl rfl rfl (n202.ne rfl n201.at_) n202.at_) (rhas_any X (i) (c) w190 hX (by omega) (by omega)) ?_
          rintro _ w204 ⟨rfl, g205⟩
          refine ⟨_, rfl, fun an203 n203 => ?_⟩
          have G206 := G192.trans g205
          have B207 := B193.gr g205
          have B208 := B194.gr g205
          have B209 := B195.gr g205
          have B210 := u191b.gr g205
          have z211 := Nat.le_trans z196 g205.size
          have O212 := ow_gr O197 g205
          have O213 := ow_gr O198 g205
          refine wpList_nil ?_
          refine th_n (hK199 _ _ ?_)
          cases c214 : (dsX X (i) (c))
          · refine wp_cond_false ((n203.at_).trans (congrArg Value.bool (c214))) ?_
            have h41 : (dsX X) i c = false := c214
            refine wp_skip ?_
            refine ib_n ?_
            refine th_n (hK167 _ _ ?_)
            refine wp_region_lit ?_
            have e215 := n203.ne rfl (n202.ne rfl (n201.ne rfl (n173.ne rfl (n172.ne rfl (n171.ne rfl e170)))))
            refine sv n203.ok rfl (wn _ rfl) rfl (o_mv e215) (fun an216 n216 => ?_)
            refine sv n216.ok rfl (wn _ rfl) rfl (o_add (r := ((c + 1 : Nat) : Int)) n216.at_ ev_const (by omega) (by omega)) (fun an217 n217 => ?_)
            refine sv n217.ok rfl (wn _ rfl) rfl (o_as n217.at_) (fun an218 n218 => ?_)
            refine wpList_nil ?_
            have e219 := n218.ne rfl (n217.ne rfl (n216.ne rfl (n203.ne rfl (n202.ne rfl (n201.ne rfl e200)))))
            have e220 := n218.ne rfl (n217.ne rfl (n216.ne rfl (n203.ne rfl (n202.ne rfl (n201.ne rfl (n173.ne rfl (n172.ne rfl (n171.ne rfl (n169.ne rfl (n165.ne rfl (n164.ne rfl s2I152)))))))))))
            have e221 := n218.ne rfl (n217.ne rfl (n216.ne rfl (n203.ne rfl (n202.ne rfl (n201.ne rfl (n173.ne rfl (n172.ne rfl (n171.ne rfl (n169.ne rfl (n165.ne rfl (n164.ne rfl s3I152)))))))))))
            have e222 := n218.ne rfl (n217.ne rfl (n216.ne rfl (n203.ne rfl (n202.ne rfl (n201.ne rfl (n173.ne rfl (n172.ne rfl (n171.ne rfl (n169.ne rfl (n165.ne rfl (n164.ne rfl s4I152)))))))))))
            have e223 := n218.ne rfl (n217.ne rfl (n216.ne rfl (n203.ne rfl (n202.ne rfl (n201.ne rfl (n173.ne rfl (n172.ne rfl (n171.ne rfl (n169.ne rfl (n165.ne rfl (n164.ne rfl s5I152)))))))))))
            have e224 := n218.ne rfl (n217.ne rfl (n216.ne rfl (n203.ne rfl (n202.ne rfl (n201.ne rfl (n173.ne rfl (n172.ne rfl (n171.ne rfl (n169.ne rfl (n165.ne rfl (n164.ne rfl s9I152)))))))))))
            exact th_n (hKI152 _ _ _ (by omega) ⟨c + 1, ma, mc, rfl, n218.ok, G206, e219, e220, e221, e222, e223, n218.at_, e224, B207, B208, (by rw [restB_no h41]; exact B209), O212, (by rw [restB_no h41]; exact O213), z211, by omega, by omega⟩)
          · refine wp_cond_true ((n203.at_).trans (congrArg Value.bool (c214))) ?_
            have h41 : (dsX X) i c = true := c214
            refine wp_region_lit ?_
            have e225 := n203.ne rfl (n202.ne rfl (n201.ne rfl (n173.ne rfl (n172.ne rfl (n171.ne rfl (n169.ne rfl (n165.ne rfl (n164.ne rfl s4I152))))))))
            refine sv n203.ok rfl (wn _ rfl) rfl (o_fa (z := 1) e225 Try.underlying35 rfl (by kernel_rfl) rfl rfl) (fun an226 n226 => ?_)
            refine sv n226.ok rfl (wn _ rfl) rfl (o_ld n226.at_ (Try.isAgg33 _) (B209.cell _ rfl)) (fun an227 n227 => ?_)
            have e228 := n227.ne rfl (n226.ne rfl (n203.ne rfl (n202.ne rfl (n201.ne rfl n173.at_))))
            refine sv n227.ok rfl (wn _ rfl) rfl (o_ldR e228 B210 Try.underlying26 rfl (by kernel_rfl)) (fun an229 n229 => ?_)
            obtain ⟨i230, i230a, i230b, i230c⟩ := info3_of (show (Try.prog.info? 26).map (fun i => (i.zero, i.size)) = some (some (.agg #[.int .i64 0, .int .i64 0]), 2) by kernel_rfl)
            refine sals (cs := #[.int .i64 (i : Int), .int .i64 (c : Int)]) n229.ok rfl (wn _ rfl) rfl (o_bs (vs := [(0, .agg #[.int .i64 (i : Int), .int .i64 (c : Int)])]) (by simp [n229.at_, ev_const]) Try.underlying33 i230a i230b (by rw [i230c]; rfl) (by rw [i230c]; rfl) (by rw [i230c]; kernel_rfl)) (fun an231 w233 b232 W234 n231 => ?_)
            have l235 : b3 < b232 := by rw [W234.eq]; exact B207.lt
            have l236 : b9 < b232 := by rw [W234.eq]; exact B208.lt
            have l237 : b19 < b232 := by rw [W234.eq]; exact B209.lt
            have l238 : b174 < b232 := by rw [W234.eq]; exact B210.lt
            have l239 : w.heap.size ≤ b232 := by rw [W234.eq]; exact G206.size
            have l240 : ∀ k, Value.ownBlock (.slice a124 (i + 1) c125) = some k → k < b232 := fun k e => by rw [W234.eq]; exact ow_in O212 k e
            have l241 : ∀ k, Value.ownBlock (.slice ma ((restTo (dsX X) i ++ restB (dsX X) i c).length) mc) = some k → k < b232 := fun k e => by rw [W234.eq]; exact ow_in O213 k e
            have G242 := G206.trans W234.gr
            have B243 := B207.gr W234.gr
            have B244 := B208.gr W234.gr
            have B245 := B209.gr W234.gr
            have B246 := B210.gr W234.gr
            have z247 := Nat.le_trans z211 W234.gr.size
            have O248 := ow_gr O212 W234.gr
            have O249 := ow_gr O213 W234.gr
            have hML : (restTo (dsX X) i ++ restB (dsX X) i c).length ≤ 6100 := rest_len (dsX X) i c (by omega) (by omega)
            have hap := restB_app (dsX X) i c (by omega) h41
            obtain ⟨i250, i250a, i250b, i250c, i250d⟩ := info_of (show (Try.prog.info? 26).map (fun i => (i.zero, i.size, i.bytes)) = some (some (.agg #[.int .i64 0, .int .i64 0]), 2, 16) by kernel_rfl)
            refine s_app (base := h1) (n := (restTo (dsX X) i ++ restB (dsX X) i c).length) (xs := flat (pairs (restTo (dsX X) i ++ restB (dsX X) i c))) (m := 1) (news := [.int .i64 (i : Int), .int .i64 (c : Int)]) n231.ok (wn _ rfl) rfl Try.underlying33 i250a i250b i250c i250d rfl (by omega) (n231.ne rfl (n229.ne rfl n227.at_)) O249 n231.at_ rfl (fun j u hj => bk_cells W234.bk j u hj) (fun u hu => by simp at hu; rcases hu with rfl | rfl <;> rfl) (by simp only [maxLen]; omega) (by omega) z247 (fun an251 w252 v253 O256 gg257 n251 => ?_)
            obtain ⟨a254, c255, rfl, c255l⟩ := ow_form O256
            have G258 := Gr.grown G242 gg257 (fun k e => Nat.le_trans l35 (ow_lt O249 k e))
            have B259 := B243.grown gg257 (ow_lt O249) l32
            have B260 := B244.grown gg257 (ow_lt O249) l33
            have B261 := B245.grown gg257 (ow_lt O249) l34
            have B262 := B246.grown_ne gg257 l182
            have B263 := W234.bk.grown_ne gg257 l241
            have z264 := Nat.le_trans z247 gg257.size
            have O265 := ow_grown O248 O249 gg257 rfl
            have O266 : w252.ownsRow h1 26 2 (.slice a254 ((restTo (dsX X) i ++ restB (dsX X) i c).length + 1) c255) ((restTo (dsX X) i ++ restB (dsX X) i c).length + 1) (flat (pairs (restTo (dsX X) i ++ restB (dsX X) i c)) ++ [.int .i64 (i : Int), .int .i64 (c : Int)]) := O256
            have e267 := n251.ne rfl (n231.ne rfl (n229.ne rfl (n227.ne rfl (n226.ne rfl e225))))
            refine sv n251.ok rfl (wn _ rfl) rfl (o_fa (z := 1) e267 Try.underlying35 rfl (by kernel_rfl) rfl rfl) (fun an268 n268 => ?_)
            refine ssC rfl (wn _ rfl) (o_st n268.at_ (n268.ne rfl n251.at_) B261 rfl (by kernel_rfl) rfl) B261 (fun w269 u270 u270b => ?_)
            have G271 : Gr w w269 := Below.upd G258 l24 u270
            have B272 := B259.upd u270 (Nat.ne_of_lt l22)
            have B273 := B260.upd u270 (Nat.ne_of_lt l23)
            have B274 := B262.upd u270 (Nat.ne_of_gt l179)
            have B275 := B263.upd u270 (Nat.ne_of_gt l237)
            have z276 : h1 ≤ w269.heap.size := by rw [u270.size]; exact z264
            have O277 := ow_upd O265 u270 l34
            have O278 := ow_upd O266 u270 l34
            refine wpList_nil ?_
            refine ib_n ?_
            refine th_n (hK167 _ _ ?_)
            refine wp_region_lit ?_
            have e279 := n268.ne rfl (n251.ne rfl (n231.ne rfl (n229.ne rfl (n227.ne rfl (n226.ne rfl (n203.ne rfl (n202.ne rfl (n201.ne rfl (n173.ne rfl (n172.ne rfl (n171.ne rfl e170)))))))))))
            refine sv n268.ok rfl (wn _ rfl) rfl (o_mv e279) (fun an280 n280 => ?_)
            refine sv n280.ok rfl (wn _ rfl) rfl (o_add (r := ((c + 1 : Nat) : Int)) n280.at_ ev_const (by omega) (by omega)) (fun an281 n281 => ?_)
            refine sv n281.ok rfl (wn _ rfl) rfl (o_as n281.at_) (fun an282 n282 => ?_)
            refine wpList_nil ?_
            have e283 := n282.ne rfl (n281.ne rfl (n280.ne rfl (n268.ne rfl (n251.ne rfl (n231.ne rfl (n229.ne rfl (n227.ne rfl (n226.ne rfl (n203.ne rfl (n202.ne rfl (n201.ne rfl e200)))))))))))
            have e284 := n282.ne rfl (n281.ne rfl (n280.ne rfl (n268.ne rfl (n251.ne rfl (n231.ne rfl (n229.ne rfl (n227.ne rfl (n226.ne rfl (n203.ne rfl (n202.ne rfl (n201.ne rfl (n173.ne rfl (n172.ne rfl (n171.ne rfl (n169.ne rfl (n165.ne rfl (n164.ne rfl s2I152)))))))))))))))))
            have e285 := n282.ne rfl (n281.ne rfl (n280.ne rfl (n268.ne rfl (n251.ne rfl (n231.ne rfl (n229.ne rfl (n227.ne rfl (n226.ne rfl (n203.ne rfl (n202.ne rfl (n201.ne rfl (n173.ne rfl (n172.ne rfl (n171.ne rfl (n169.ne rfl (n165.ne rfl (n164.ne rfl s3I152)))))))))))))))))
            have e286 := n282.ne rfl (n281.ne rfl (n280.ne rfl (n268.ne rfl e267)))
            have e287 := n282.ne rfl (n281.ne rfl (n280.ne rfl (n268.ne rfl (n251.ne rfl (n231.ne rfl (n229.ne rfl (n227.ne rfl (n226.ne rfl (n203.ne rfl (n202.ne rfl (n201.ne rfl (n173.ne rfl (n172.ne rfl (n171.ne rfl (n169.ne rfl (n165.ne rfl (n164.ne rfl s5I152)))))))))))))))))
            have e288 := n282.ne rfl (n281.ne rfl (n280.ne rfl (n268.ne rfl (n251.ne rfl (n231.ne rfl (n229.ne rfl (n227.ne rfl (n226.ne rfl (n203.ne rfl (n202.ne rfl (n201.ne rfl (n173.ne rfl (n172.ne rfl (n171.ne rfl (n169.ne rfl (n165.ne rfl (n164.ne rfl s9I152)))))))))))))))))
            exact th_n (hKI152 _ _ _ (by omega) ⟨c + 1, a254, c255, rfl, n282.ok, G271, e283, e284, e285, e286, e287, n282.at_, e288, B272, B273, (by rw [hap.1]; exact u270b), O277, (by rw [hap.1, hap.2, ← flatD_snoc]; exact O278), z276, by omega, by omega⟩)
        · refine wp_cond_false ((n165.at_).trans (congrArg Value.bool (decide_eq_false c166))) ?_
          refine wp_exit ?_
          refine th_x ?_
          refine th_x ?_
          refine ib_x ?_
          refine ib_n ?_
          refine th_n (hK49 _ _ ?_)
          refine wp_region_lit ?_
          refine sv n165.ok rfl (wn _ rfl) rfl (o_add (r := ((i + 1 : Nat) : Int)) (n165.ne rfl (n164.ne rfl s9I152)) ev_const (by omega) (by omega)) (fun an289 n289 => ?_)
          refine sv n289.ok rfl (wn _ rfl) rfl (o_mv n289.at_) (fun an290 n290 => ?_)
          refine wpList_nil ?_
          have hre : restTo (dsX X) i ++ restB (dsX X) i c = restTo (dsX X) (i + 1) := rest_end (dsX X) i c hc1I152 (by omega) hR
          have e291 := n290.ne rfl (n289.ne rfl (n165.ne rfl (n164.ne rfl s1I152)))
          have e292 := n290.ne rfl (n289.ne rfl (n165.ne rfl (n164.ne rfl s2I152)))
          have e293 := n290.ne rfl (n289.ne rfl (n165.ne rfl (n164.ne rfl s3I152)))
          have e294 := n290.ne rfl (n289.ne rfl (n165.ne rfl (n164.ne rfl s4I152)))
          exact th_n (hKI39 _ _ _ (by omega) ⟨i + 1, a124, c125, ma, mc, rfl, n290.ok, GI152, e291, e292, e293, e294, n290.at_, kb3I152, kb9I152, (by rw [← hre]; exact kb19I152), oVI152, (by rw [← hre]; exact oMI152), zh1I152, by omega⟩)
      · refine wp_cond_true ((n94.at_).trans (congrArg Value.bool (c95))) ?_
        have h21 : (dsX X) i (n + 1) = true := c95
        refine wp_skip ?_
        refine th_n (hK65 _ _ ?_)
        refine wp_block ?_
        refine wp_region_lit ?_
        have e295 := n94.ne rfl (n83.ne rfl (n81.ne rfl (n80.ne rfl (n78.ne rfl e77))))
        refine sv n94.ok rfl (wn _ rfl) rfl (o_mv e295) (fun an296 n296 => ?_)
        refine sv n296.ok rfl (wn _ rfl) rfl (o_add (r := ((n + 1 : Nat) : Int)) n296.at_ ev_const (by omega) (by omega)) (fun an297 n297 => ?_)
        refine sv n297.ok rfl (wn _ rfl) rfl (o_as n297.at_) (fun an298 n298 => ?_)
        refine wpList_nil ?_
        refine ib_n ?_
        have e299 := n298.ne rfl (n297.ne rfl (n296.ne rfl (n94.ne rfl (n83.ne rfl (n81.ne rfl (n80.ne rfl (n78.ne rfl (n76.ne rfl (n74.ne rfl e73)))))))))
        have e300 := n298.ne rfl (n297.ne rfl (n296.ne rfl (n94.ne rfl (n83.ne rfl (n81.ne rfl (n80.ne rfl (n78.ne rfl (n76.ne rfl (n74.ne rfl (n69.ne rfl (n68.ne rfl (n67.ne rfl s2I56))))))))))))
        have e301 := n298.ne rfl (n297.ne rfl (n296.ne rfl (n94.ne rfl (n83.ne rfl (n81.ne rfl (n80.ne rfl (n78.ne rfl (n76.ne rfl (n74.ne rfl (n69.ne rfl (n68.ne rfl (n67.ne rfl s3I56))))))))))))
        have e302 := n298.ne rfl (n297.ne rfl (n296.ne rfl (n94.ne rfl (n83.ne rfl (n81.ne rfl (n80.ne rfl (n78.ne rfl (n76.ne rfl (n74.ne rfl (n69.ne rfl (n68.ne rfl (n67.ne rfl s4I56))))))))))))
        have e303 := n298.ne rfl (n297.ne rfl (n296.ne rfl (n94.ne rfl (n83.ne rfl (n81.ne rfl (n80.ne rfl (n78.ne rfl (n76.ne rfl e75))))))))
        have e304 := n298.ne rfl (n297.ne rfl (n296.ne rfl (n94.ne rfl (n83.ne rfl (n81.ne rfl (n80.ne rfl (n78.ne rfl (n76.ne rfl (n74.ne rfl (n69.ne rfl (n68.ne rfl (n67.ne rfl s9I56))))))))))))
        exact th_n (hKI56 _ _ _ (by omega) ⟨n + 1, rfl, n298.ok, G86, e299, e300, e301, e302, e303, n298.at_, e304, B87, B88, B89, O91, O92, z90, by omega, all_snoc hallI56 h21⟩)
    · have e305 := (n69.at_).trans (congrArg Value.bool (decide_eq_false c70))
      have e306 := ((n69.ne rfl n68.at_)).trans (congrArg Value.bool (decide_eq_false c70))
      have hR : run (dsX X) i = n := run_is hallI56 (.inl (by omega)) hnI56
      refine sn n69.ok rfl (wgF rfl (yl 2 false rfl e305) rfl) rfl (fun an307 n307 => ?_)
      refine sn n307.ok rfl (wgF rfl (yl 2 false rfl (n307.ne rfl e305)) rfl) rfl (fun an308 n308 => ?_)
      refine sn n308.ok rfl (wgF rfl (yl 2 false rfl (n308.ne rfl (n307.ne rfl e305))) rfl) rfl (fun an309 n309 => ?_)
      have e310 := n309.ne rfl (n308.ne rfl (n307.ne rfl e305))
      refine sn n309.ok rfl (wgF rfl (yl 2 false rfl e310) rfl) rfl (fun an311 n311 => ?_)
      refine sn n311.ok rfl (wgF rfl (yl 2 false rfl (n311.ne rfl e310)) rfl) rfl (fun an312 n312 => ?_)
      refine sn n312.ok rfl (wgF rfl (yl 2 false rfl (n312.ne rfl (n311.ne rfl e310))) rfl) rfl (fun an313 n313 => ?_)
      have e314 := n313.ne rfl (n312.ne rfl (n311.ne rfl e310))
      refine sv n313.ok rfl (wn _ rfl) rfl (o_pkF e314 ev_const) (fun an315 n315 => ?_)
      refine wpList_nil ?_
      refine th_n (hK66 _ _ ?_)
      refine wp_cond_false (n315.at_) ?_
      refine wp_exit ?_
      refine th_x ?_
      refine th_x ?_
      refine ib_x ?_
      refine th_n (hK55 _ _ ?_)
      refine wp_seq_k (fun K316 hK316 => ?_)
      refine wp_region_lit ?_
      have e317 := n315.ne rfl (n313.ne rfl (n312.ne rfl (n311.ne rfl (n309.ne rfl (n308.ne rfl (n307.ne rfl (n69.ne rfl (n68.ne rfl (n67.ne rfl s4I56)))))))))
      refine sv n315.ok rfl (wn _ rfl) rfl (o_fa (z := 1) e317 Try.underlying35 rfl (by kernel_rfl) rfl rfl) (fun an318 n318 => ?_)
      refine sv n318.ok rfl (wn _ rfl) rfl (o_ld n318.at_ (Try.isAgg32 _) (kb19I56.cell _ rfl)) (fun an319 n319 => ?_)
      have e320 := n319.ne rfl (n318.ne rfl (n315.ne rfl (n313.ne rfl (n312.ne rfl (n311.ne rfl (n309.ne rfl (n308.ne rfl (n307.ne rfl (n69.ne rfl (n68.ne rfl (n67.ne rfl s6I56)))))))))))
      refine sv n319.ok rfl (wn _ rfl) rfl (o_mv e320) (fun an321 n321 => ?_)
      obtain ⟨i322, i322a, i322b, i322c⟩ := info3_of (show (Try.prog.info? 3).map (fun i => (i.zero, i.size)) = some (some (.int .i64 0), 1) by kernel_rfl)
      refine sals (cs := #[.int .i64 (n : Int)]) n321.ok rfl (wn _ rfl) rfl (o_bs (vs := [(0, .int .i64 (n : Int))]) (by simp [n321.at_, ev_const]) Try.underlying32 i322a i322b (by rw [i322c]; rfl) (by rw [i322c]; rfl) (by rw [i322c]; kernel_rfl)) (fun an323 w325 b324 W326 n323 => ?_)
      have l327 : b3 < b324 := by rw [W326.eq]; exact kb3I56.lt
      have l328 : b9 < b324 := by rw [W326.eq]; exact kb9I56.lt
      have l329 : b19 < b324 := by rw [W326.eq]; exact kb19I56.lt
      have l330 : w.heap.size ≤ b324 := by rw [W326.eq]; exact GI56.size
      have l331 : ∀ k, Value.ownBlock (.slice va i vc) = some k → k < b324 := fun k e => by rw [W326.eq]; exact ow_in oVI56 k e
      have l332 : ∀ k, Value.ownBlock (.slice ma ((restTo (dsX X) (i)).length) mc) = some k → k < b324 := fun k e => by rw [W326.eq]; exact ow_in oMI56 k e
      have G333 := GI56.trans W326.gr
      have B334 := kb3I56.gr W326.gr
      have B335 := kb9I56.gr W326.gr
      have B336 := kb19I56.gr W326.gr
      have z337 := Nat.le_trans zh1I56 W326.gr.size
      have O338 := ow_gr oVI56 W326.gr
      have O339 := ow_gr oMI56 W326.gr
      obtain ⟨i340, i340a, i340b, i340c, i340d⟩ := info_of (show (Try.prog.info? 3).map (fun i => (i.zero, i.size, i.bytes)) = some (some (.int .i64 0), 1, 8) by kernel_rfl)
      refine s_app (base := h1) (n := i) (xs := flatI (runsTo (dsX X) i)) (m := 1) (news := [.int .i64 (n : Int)]) n323.ok (wn _ rfl) rfl Try.underlying32 i340a i340b i340c i340d rfl (by omega) (n323.ne rfl (n321.ne rfl n319.at_)) O338 n323.at_ rfl (fun j u hj => bk_cells W326.bk j u hj) (fun u hu => by simp at hu; subst hu; rfl) (by simp only [maxLen]; omega) (by omega) z337 (fun an341 w342 v343 O346 gg347 n341 => ?_)
      obtain ⟨a344, c345, rfl, c345l⟩ := ow_form O346
      have G348 := Gr.grown G333 gg347 (fun k e => Nat.le_trans l35 (ow_lt O338 k e))
      have B349 := B334.grown gg347 (ow_lt O338) l32
      have B350 := B335.grown gg347 (ow_lt O338) l33
      have B351 := B336.grown gg347 (ow_lt O338) l34
      have B352 := W326.bk.grown_ne gg347 l331
      have z353 := Nat.le_trans z337 gg347.size
      have O354 := ow_grown O339 O338 gg347 rfl
      have O355 : w342.ownsRow h1 3 1 (.slice a344 (i + 1) c345) (i + 1) (flatI (runsTo (dsX X) (i + 1))) := by rw [runsTo_succ, hR, ← flatI_snoc]; exact O346
      have e356 := n341.ne rfl (n323.ne rfl (n321.ne rfl (n319.ne rfl (n318.ne rfl e317))))
      refine sv n341.ok rfl (wn _ rfl) rfl (o_fa (z := 1) e356 Try.underlying35 rfl (by kernel_rfl) rfl rfl) (fun an357 n357 => ?_)
      refine ssC rfl (wn _ rfl) (o_st n357.at_ (n357.ne rfl n341.at_) B351 rfl (by kernel_rfl) rfl) B351 (fun w358 u359 u359b => ?_)
      have G360 : Gr w w358 := Below.upd G348 l24 u359
      have B361 := B349.upd u359 (Nat.ne_of_lt l22)
      have B362 := B350.upd u359 (Nat.ne_of_lt l23)
      have B363 := B352.upd u359 (Nat.ne_of_gt l329)
      have z364 : h1 ≤ w358.heap.size := by rw [u359.size]; exact z353
      have O365 := ow_upd O355 u359 l34
      have O366 := ow_upd O354 u359 l34
      refine wpList_nil ?_
      refine th_n (hK316 _ _ ?_)
      refine wp_seq_k (fun K367 hK367 => ?_)
      refine wp_region_lit ?_
      have e368 := n357.ne rfl (n341.ne rfl (n323.ne rfl (n321.ne rfl e320)))
      refine sv n357.ok rfl (wn _ rfl) rfl (o_mv e368) (fun an369 n369 => ?_)
      refine sv n369.ok rfl (wn _ rfl) rfl (o_add (r := ((n + 2 : Nat) : Int)) n369.at_ ev_const (by omega) (by omega)) (fun an370 n370 => ?_)
      refine sv n370.ok rfl (wn _ rfl) rfl (o_as n370.at_) (fun an371 n371 => ?_)
      refine wpList_nil ?_
      refine th_n (hK367 _ _ ?_)
      refine wp_block ?_
      have hst : restTo (dsX X) i ++ restB (dsX X) i (n + 2) = restTo (dsX X) i := by rw [restB_start (dsX X) i (n + 2) (by omega), List.append_nil]
      have e373 := n371.ne rfl (n370.ne rfl (n369.ne rfl (n357.ne rfl (n341.ne rfl (n323.ne rfl (n321.ne rfl (n319.ne rfl (n318.ne rfl (n315.ne rfl (n313.ne rfl (n312.ne rfl (n311.ne rfl (n309.ne rfl (n308.ne rfl (n307.ne rfl (n69.ne rfl (n68.ne rfl (n67.ne rfl s1I56))))))))))))))))))
      have e374 := n371.ne rfl (n370.ne rfl (n369.ne rfl (n357.ne rfl (n341.ne rfl (n323.ne rfl (n321.ne rfl (n319.ne rfl (n318.ne rfl (n315.ne rfl (n313.ne rfl (n312.ne rfl (n311.ne rfl (n309.ne rfl (n308.ne rfl (n307.ne rfl (n69.ne rfl (n68.ne rfl (n67.ne rfl s2I56))))))))))))))))))
      have e375 := n371.ne rfl (n370.ne rfl (n369.ne rfl (n357.ne rfl (n341.ne rfl (n323.ne rfl (n321.ne rfl (n319.ne rfl (n318.ne rfl (n315.ne rfl (n313.ne rfl (n312.ne rfl (n311.ne rfl (n309.ne rfl (n308.ne rfl (n307.ne rfl (n69.ne rfl (n68.ne rfl (n67.ne rfl s3I56))))))))))))))))))
      have e376 := n371.ne rfl (n370.ne rfl (n369.ne rfl (n357.ne rfl e356)))
      have e377 := n371.ne rfl (n370.ne rfl (n369.ne rfl (n357.ne rfl (n341.ne rfl (n323.ne rfl (n321.ne rfl (n319.ne rfl (n318.ne rfl (n315.ne rfl (n313.ne rfl (n312.ne rfl (n311.ne rfl (n309.ne rfl (n308.ne rfl (n307.ne rfl (n69.ne rfl (n68.ne rfl (n67.ne rfl s5I56))))))))))))))))))
      have e378 := n371.ne rfl (n370.ne rfl (n369.ne rfl (n357.ne rfl (n341.ne rfl (n323.ne rfl (n321.ne rfl (n319.ne rfl (n318.ne rfl (n315.ne rfl (n313.ne rfl (n312.ne rfl (n311.ne rfl (n309.ne rfl (n308.ne rfl (n307.ne rfl (n69.ne rfl (n68.ne rfl (n67.ne rfl s9I56))))))))))))))))))
      refine lp (fun (nL : Nat) (aL : Act) (wL : World) => ∃ c : Nat, ∃ ma : Option Addr, ∃ mc : Nat, nL = 1002 - c ∧ Ok 77 aL ∧ Gr w wL ∧ (aL.eval (.tmp 1) = .pointer (some ⟨b3, 0, none⟩)) ∧ (aL.eval (.tmp 2) = .pointer (some ⟨b9, 0, none⟩)) ∧ (aL.eval (.tmp 3) = .bool false) ∧ (aL.eval (.tmp 4) = .pointer (some ⟨b19, 0, none⟩)) ∧ (aL.eval (.tmp 5) = .int .i64 (i : Int)) ∧ (aL.eval (.tmp 7) = .int .i64 (c : Int)) ∧ (aL.eval (.tmp 9) = .int .i64 (i : Int)) ∧ (Bk wL b3 (wArr X) 86) ∧ (Bk wL b9 #[.slice none 0 0, .slice none 0 0] 35) ∧ (Bk wL b19 #[.slice a344 (i + 1) c345, .slice ma ((restTo (dsX X) i ++ restB (dsX X) i c).length) mc] 35) ∧ (World.ownsRow wL h1 3 1 (.slice a344 (i + 1) c345) (i + 1) (flatI (runsTo (dsX X) (i + 1)))) ∧ (World.ownsRow wL h1 26 2 (.slice ma ((restTo (dsX X) i ++ restB (dsX X) i c).length) mc) ((restTo (dsX X) i ++ restB (dsX X) i c).length) (flat (pairs (restTo (dsX X) i ++ restB (dsX X) i c)))) ∧ (h1 ≤ wL.heap.size) ∧ (n + 2 ≤ c) ∧ (c ≤ 1001 ∨ c = n + 2)) _ ⟨n + 2, ma, mc, rfl, n371.ok, G360, e373, e374, e375, e376, e377, n371.at_, e378, B361, B362, (by rw [hst]; exact u359b), O365, (by rw [hst]; exact O366), z364, by omega, by omega⟩ ?_
      rintro m379 aI372 w381 ⟨c, ma, mc, hmI372, okI372, GI372, s1I372, s2I372, s3I372, s4I372, s5I372, s7I372, s9I372, kb3I372, kb9I372, kb19I372, oVI372, oMI372, zh1I372, hc1I372, hc2I372⟩ KI372 hKI372
      refine wp_seq_k (fun K382 hK382 => ?_)
      refine wp_seq_k (fun K383 hK383 => ?_)
      refine wp_region_lit ?_
      refine sv okI372 rfl (wn _ rfl) rfl (o_mv s7I372) (fun an384 n384 => ?_)
      refine sv n384.ok rfl (wn _ rfl) rfl (o_leI n384.at_ ev_const) (fun an385 n385 => ?_)
      refine wpList_nil ?_
      refine th_n (hK383 _ _ ?_)
      by_cases c386 : (c : Int) ≤ 1000
      · refine wp_cond_true ((n385.at_).trans (congrArg Value.bool (decide_eq_true c386))) ?_
        refine wp_skip ?_
        refine th_n (hK382 _ _ ?_)
        refine wp_seq_k (fun K387 hK387 => ?_)
        refine wp_block ?_
        refine wp_seq_k (fun K388 hK388 => ?_)
        refine wp_region_lit ?_
        refine sv n385.ok rfl (wn _ rfl) rfl (o_mv (n385.ne rfl (n384.ne rfl s5I372))) (fun an389 n389 => ?_)
        have e390 := n389.ne rfl (n385.ne rfl (n384.ne rfl s7I372))
        refine sv n389.ok rfl (wn _ rfl) rfl (o_mv e390) (fun an391 n391 => ?_)
        refine sv n391.ok rfl (wn _ rfl) rfl (o_bd (cells := #[.int .i64 (i : Int), .int .i64 (c : Int)]) (vs := [(0, .int .i64 (i : Int)), (1, .int .i64 (c : Int))]) (by simp [(n391.ne rfl n389.at_), n391.at_, ev_const]) (by kernel_rfl)) (fun an392 n392 => ?_)
        refine sal (cs := #[.int .i64 0, .int .i64 0]) n392.ok rfl (wn _ rfl) rfl (o_al (z := .agg #[.int .i64 0, .int .i64 0]) (by kernel_rfl)) (fun an393 w395 b394 W396 n393 => ?_)
        have l397 : b3 < b394 := by rw [W396.eq]; exact kb3I372.lt
        have l398 : b9 < b394 := by rw [W396.eq]; exact kb9I372.lt
        have l399 : b19 < b394 := by rw [W396.eq]; exact kb19I372.lt
        have l400 : w.heap.size ≤ b394 := by rw [W396.eq]; exact GI372.size
        have l401 : ∀ k, Value.ownBlock (.slice a344 (i + 1) c345) = some k → k < b394 := fun k e => by rw [W396.eq]; exact ow_in oVI372 k e
        have l402 : ∀ k, Value.ownBlock (.slice ma ((restTo (dsX X) i ++ restB (dsX X) i c).length) mc) = some k → k < b394 := fun k e => by rw [W396.eq]; exact ow_in oMI372 k e
        have G403 := GI372.trans W396.gr
        have B404 := kb3I372.gr W396.gr
        have B405 := kb9I372.gr W396.gr
        have B406 := kb19I372.gr W396.gr
        have z407 := Nat.le_trans zh1I372 W396.gr.size
        have O408 := ow_gr oVI372 W396.gr
        have O409 := ow_gr oMI372 W396.gr
        refine ssR rfl (wn _ rfl) (o_stR n393.at_ (n393.ne rfl n392.at_) W396.bk (by kernel_rfl) rfl (by simp [Value.oneCell'])) W396.bk (fun w410 u411 u411b => ?_)
        have G412 : Gr w w410 := Below.upd G403 l400 u411
        have B413 := B404.upd u411 (Nat.ne_of_lt l397)
        have B414 := B405.upd u411 (Nat.ne_of_lt l398)
        have B415 := B406.upd u411 (Nat.ne_of_lt l399)
        have z416 : h1 ≤ w410.heap.size := by rw [u411.size]; exact z407
        have O417 := ow_upd_ne O408 u411 l401
        have O418 := ow_upd_ne O409 u411 l402
        refine wpList_nil ?_
        refine th_n (hK388 _ _ ?_)
        refine wp_seq_k (fun K419 hK419 => ?_)
        refine wp_region_lit ?_
        have e420 := n393.ne rfl (n392.ne rfl (n391.ne rfl (n389.ne rfl (n385.ne rfl (n384.ne rfl s1I372)))))
        refine sv n393.ok rfl (wn _ rfl) rfl (o_ldR e420 B413 Try.underlying86 rfl (dots_sz X)) (fun an421 n421 => ?_)
        refine sv n421.ok rfl (wn _ rfl) rfl (o_ldR (n421.ne rfl n393.at_) u411b Try.underlying26 rfl (by kernel_rfl)) (fun an422 n422 => ?_)
        refine sc n422.ok rfl (wn _ rfl) rfl (o_f2 Try.func46 rfl rfl rfl (n422.ne rfl n421.at_) n422.at_) (rhas_any X (i) (c) w410 hX (by omega) (by omega)) ?_
        rintro _ w424 ⟨rfl, g425⟩
        refine ⟨_, rfl, fun an423 n423 => ?_⟩
        have G426 := G412.trans g425
        have B427 := B413.gr g425
        have B428 := B414.gr g425
        have B429 := B415.gr g425
        have B430 := u411b.gr g425
        have z431 := Nat.le_trans z416 g425.size
        have O432 := ow_gr O417 g425
        have O433 := ow_gr O418 g425
        refine wpList_nil ?_
        refine th_n (hK419 _ _ ?_)
        cases c434 : (dsX X (i) (c))
        · refine wp_cond_false ((n423.at_).trans (congrArg Value.bool (c434))) ?_
          have h41 : (dsX X) i c = false := c434
          refine wp_skip ?_
          refine ib_n ?_
          refine th_n (hK387 _ _ ?_)
          refine wp_region_lit ?_
          have e435 := n423.ne rfl (n422.ne rfl (n421.ne rfl (n393.ne rfl (n392.ne rfl (n391.ne rfl e390)))))
          refine sv n423.ok rfl (wn _ rfl) rfl (o_mv e435) (fun an436 n436 => ?_)
          refine sv n436.ok rfl (wn _ rfl) rfl (o_add (r := ((c + 1 : Nat) : Int)) n436.at_ ev_const (by omega) (by omega)) (fun an437 n437 => ?_)
          refine sv n437.ok rfl (wn _ rfl) rfl (o_as n437.at_) (fun an438 n438 => ?_)
          refine wpList_nil ?_
          have e439 := n438.ne rfl (n437.ne rfl (n436.ne rfl (n423.ne rfl (n422.ne rfl (n421.ne rfl e420)))))
          have e440 := n438.ne rfl (n437.ne rfl (n436.ne rfl (n423.ne rfl (n422.ne rfl (n421.ne rfl (n393.ne rfl (n392.ne rfl (n391.ne rfl (n389.ne rfl (n385.ne rfl (n384.ne rfl s2I372)))))))))))
          have e441 := n438.ne rfl (n437.ne rfl (n436.ne rfl (n423.ne rfl (n422.ne rfl (n421.ne rfl (n393.ne rfl (n392.ne rfl (n391.ne rfl (n389.ne rfl (n385.ne rfl (n384.ne rfl s3I372)))))))))))
          have e442 := n438.ne rfl (n437.ne rfl (n436.ne rfl (n423.ne rfl (n422.ne rfl (n421.ne rfl (n393.ne rfl (n392.ne rfl (n391.ne rfl (n389.ne rfl (n385.ne rfl (n384.ne rfl s4I372)))))))))))
          have e443 := n438.ne rfl (n437.ne rfl (n436.ne rfl (n423.ne rfl (n422.ne rfl (n421.ne rfl (n393.ne rfl (n392.ne rfl (n391.ne rfl (n389.ne rfl (n385.ne rfl (n384.ne rfl s5I372)))))))))))
          have e444 := n438.ne rfl (n437.ne rfl (n436.ne rfl (n423.ne rfl (n422.ne rfl (n421.ne rfl (n393.ne rfl (n392.ne rfl (n391.ne rfl (n389.ne rfl (n385.ne rfl (n384.ne rfl s9I372)))))))))))
          exact th_n (hKI372 _ _ _ (by omega) ⟨c + 1, ma, mc, rfl, n438.ok, G426, e439, e440, e441, e442, e443, n438.at_, e444, B427, B428, (by rw [restB_no h41]; exact B429), O432, (by rw [restB_no h41]; exact O433), z431, by omega, by omega⟩)
        · refine wp_cond_true ((n423.at_).trans (congrArg Value.bool (c434))) ?_
          have h41 : (dsX X) i c = true := c434
          refine wp_region_lit ?_
          have e445 := n423.ne rfl (n422.ne rfl (n421.ne rfl (n393.ne rfl (n392.ne rfl (n391.ne rfl (n389.ne rfl (n385.ne rfl (n384.ne rfl s4I372))))))))
          refine sv n423.ok rfl (wn _ rfl) rfl (o_fa (z := 1) e445 Try.underlying35 rfl (by kernel_rfl) rfl rfl) (fun an446 n446 => ?_)
          refine sv n446.ok rfl (wn _ rfl) rfl (o_ld n446.at_ (Try.isAgg33 _) (B429.cell _ rfl)) (fun an447 n447 => ?_)
          have e448 := n447.ne rfl (n446.ne rfl (n423.ne rfl (n422.ne rfl (n421.ne rfl n393.at_))))
          refine sv n447.ok rfl (wn _ rfl) rfl (o_ldR e448 B430 Try.underlying26 rfl (by kernel_rfl)) (fun an449 n449 => ?_)
          obtain ⟨i450, i450a, i450b, i450c⟩ := info3_of (show (Try.prog.info? 26).map (fun i => (i.zero, i.size)) = some (some (.agg #[.int .i64 0, .int .i64 0]), 2) by kernel_rfl)
          refine sals (cs := #[.int .i64 (i : Int), .int .i64 (c : Int)]) n449.ok rfl (wn _ rfl) rfl (o_bs (vs := [(0, .agg #[.int .i64 (i : Int), .int .i64 (c : Int)])]) (by simp [n449.at_, ev_const]) Try.underlying33 i450a i450b (by rw [i450c]; rfl) (by rw [i450c]; rfl) (by rw [i450c]; kernel_rfl)) (fun an451 w453 b452 W454 n451 => ?_)
          have l455 : b3 < b452 := by rw [W454.eq]; exact B427.lt
          have l456 : b9 < b452 := by rw [W454.eq]; exact B428.lt
          have l457 : b19 < b452 := by rw [W454.eq]; exact B429.lt
          have l458 : b394 < b452 := by rw [W454.eq]; exact B430.lt
          have l459 : w.heap.size ≤ b452 := by rw [W454.eq]; exact G426.size
          have l460 : ∀ k, Value.ownBlock (.slice a344 (i + 1) c345) = some k → k < b452 := fun k e => by rw [W454.eq]; exact ow_in O432 k e
          have l461 : ∀ k, Value.ownBlock (.slice ma ((restTo (dsX X) i ++ restB (dsX X) i c).length) mc) = some k → k < b452 := fun k e => by rw [W454.eq]; exact ow_in O433 k e
          have G462 := G426.trans W454.gr
          have B463 := B427.gr W454.gr
          have B464 := B428.gr W454.gr
          have B465 := B429.gr W454.gr
          have B466 := B430.gr W454.gr
          have z467 := Nat.le_trans z431 W454.gr.size
          have O468 := ow_gr O432 W454.gr
          have O469 := ow_gr O433 W454.gr
          have hML : (restTo (dsX X) i ++ restB (dsX X) i c).length ≤ 6100 := rest_len (dsX X) i c (by omega) (by omega)
          have hap := restB_app (dsX X) i c (by omega) h41
          obtain ⟨i470, i470a, i470b, i470c, i470d⟩ := info_of (show (Try.prog.info? 26).map (fun i => (i.zero, i.size, i.bytes)) = some (some (.agg #[.int .i64 0, .int .i64 0]), 2, 16) by kernel_rfl)
          refine s_app (base := h1) (n := (restTo (dsX X) i ++ restB (dsX X) i c).length) (xs := flat (pairs (restTo (dsX X) i ++ restB (dsX X) i c))) (m := 1) (news := [.int .i64 (i : Int), .int .i64 (c : Int)]) n451.ok (wn _ rfl) rfl Try.underlying33 i470a i470b i470c i470d rfl (by omega) (n451.ne rfl (n449.ne rfl n447.at_)) O469 n451.at_ rfl (fun j u hj => bk_cells W454.bk j u hj) (fun u hu => by simp at hu; rcases hu with rfl | rfl <;> rfl) (by simp only [maxLen]; omega) (by omega) z467 (fun an471 w472 v473 O476 gg477 n471 => ?_)
          obtain ⟨a474, c475, rfl, c475l⟩ := ow_form O476
          have G478 := Gr.grown G462 gg477 (fun k e => Nat.le_trans l35 (ow_lt O469 k e))
          have B479 := B463.grown gg477 (ow_lt O469) l32
          have B480 := B464.grown gg477 (ow_lt O469) l33
          have B481 := B465.grown gg477 (ow_lt O469) l34
          have B482 := B466.grown_ne gg477 l402
          have B483 := W454.bk.grown_ne gg477 l461
          have z484 := Nat.le_trans z467 gg477.size
          have O485 := ow_grown O468 O469 gg477 rfl
          have O486 : w472.ownsRow h1 26 2 (.slice a474 ((restTo (dsX X) i ++ restB (dsX X) i c).length + 1) c475) ((restTo (dsX X) i ++ restB (dsX X) i c).length + 1) (flat (pairs (restTo (dsX X) i ++ restB (dsX X) i c)) ++ [.int .i64 (i : Int), .int .i64 (c : Int)]) := O476
          have e487 := n471.ne rfl (n451.ne rfl (n449.ne rfl (n447.ne rfl (n446.ne rfl e445))))
          refine sv n471.ok rfl (wn _ rfl) rfl (o_fa (z := 1) e487 Try.underlying35 rfl (by kernel_rfl) rfl rfl) (fun an488 n488 => ?_)
          refine ssC rfl (wn _ rfl) (o_st n488.at_ (n488.ne rfl n471.at_) B481 rfl (by kernel_rfl) rfl) B481 (fun w489 u490 u490b => ?_)
          have G491 : Gr w w489 := Below.upd G478 l24 u490
          have B492 := B479.upd u490 (Nat.ne_of_lt l22)
          have B493 := B480.upd u490 (Nat.ne_of_lt l23)
          have B494 := B482.upd u490 (Nat.ne_of_gt l399)
          have B495 := B483.upd u490 (Nat.ne_of_gt l457)
          have z496 : h1 ≤ w489.heap.size := by rw [u490.size]; exact z484
          have O497 := ow_upd O485 u490 l34
          have O498 := ow_upd O486 u490 l34
          refine wpList_nil ?_
          refine ib_n ?_
          refine th_n (hK387 _ _ ?_)
          refine wp_region_lit ?_
          have e499 := n488.ne rfl (n471.ne rfl (n451.ne rfl (n449.ne rfl (n447.ne rfl (n446.ne rfl (n423.ne rfl (n422.ne rfl (n421.ne rfl (n393.ne rfl (n392.ne rfl (n391.ne rfl e390)))))))))))
          refine sv n488.ok rfl (wn _ rfl) rfl (o_mv e499) (fun an500 n500 => ?_)
          refine sv n500.ok rfl (wn _ rfl) rfl (o_add (r := ((c + 1 : Nat) : Int)) n500.at_ ev_const (by omega) (by omega)) (fun an501 n501 => ?_)
          refine sv n501.ok rfl (wn _ rfl) rfl (o_as n501.at_) (fun an502 n502 => ?_)
          refine wpList_nil ?_
          have e503 := n502.ne rfl (n501.ne rfl (n500.ne rfl (n488.ne rfl (n471.ne rfl (n451.ne rfl (n449.ne rfl (n447.ne rfl (n446.ne rfl (n423.ne rfl (n422.ne rfl (n421.ne rfl e420)))))))))))
          have e504 := n502.ne rfl (n501.ne rfl (n500.ne rfl (n488.ne rfl (n471.ne rfl (n451.ne rfl (n449.ne rfl (n447.ne rfl (n446.ne rfl (n423.ne rfl (n422.ne rfl (n421.ne rfl (n393.ne rfl (n392.ne rfl (n391.ne rfl (n389.ne rfl (n385.ne rfl (n384.ne rfl s2I372)))))))))))))))))
          have e505 := n502.ne rfl (n501.ne rfl (n500.ne rfl (n488.ne rfl (n471.ne rfl (n451.ne rfl (n449.ne rfl (n447.ne rfl (n446.ne rfl (n423.ne rfl (n422.ne rfl (n421.ne rfl (n393.ne rfl (n392.ne rfl (n391.ne rfl (n389.ne rfl (n385.ne rfl (n384.ne rfl s3I372)))))))))))))))))
          have e506 := n502.ne rfl (n501.ne rfl (n500.ne rfl (n488.ne rfl e487)))
          have e507 := n502.ne rfl (n501.ne rfl (n500.ne rfl (n488.ne rfl (n471.ne rfl (n451.ne rfl (n449.ne rfl (n447.ne rfl (n446.ne rfl (n423.ne rfl (n422.ne rfl (n421.ne rfl (n393.ne rfl (n392.ne rfl (n391.ne rfl (n389.ne rfl (n385.ne rfl (n384.ne rfl s5I372)))))))))))))))))
          have e508 := n502.ne rfl (n501.ne rfl (n500.ne rfl (n488.ne rfl (n471.ne rfl (n451.ne rfl (n449.ne rfl (n447.ne rfl (n446.ne rfl (n423.ne rfl (n422.ne rfl (n421.ne rfl (n393.ne rfl (n392.ne rfl (n391.ne rfl (n389.ne rfl (n385.ne rfl (n384.ne rfl s9I372)))))))))))))))))
          exact th_n (hKI372 _ _ _ (by omega) ⟨c + 1, a474, c475, rfl, n502.ok, G491, e503, e504, e505, e506, e507, n502.at_, e508, B492, B493, (by rw [hap.1]; exact u490b), O497, (by rw [hap.1, hap.2, ← flatD_snoc]; exact O498), z496, by omega, by omega⟩)
      · refine wp_cond_false ((n385.at_).trans (congrArg Value.bool (decide_eq_false c386))) ?_
        refine wp_exit ?_
        refine th_x ?_
        refine th_x ?_
        refine ib_x ?_
        refine ib_n ?_
        refine th_n (hK49 _ _ ?_)
        refine wp_region_lit ?_
        refine sv n385.ok rfl (wn _ rfl) rfl (o_add (r := ((i + 1 : Nat) : Int)) (n385.ne rfl (n384.ne rfl s9I372)) ev_const (by omega) (by omega)) (fun an509 n509 => ?_)
        refine sv n509.ok rfl (wn _ rfl) rfl (o_mv n509.at_) (fun an510 n510 => ?_)
        refine wpList_nil ?_
        have hre : restTo (dsX X) i ++ restB (dsX X) i c = restTo (dsX X) (i + 1) := rest_end (dsX X) i c hc1I372 (by omega) hR
        have e511 := n510.ne rfl (n509.ne rfl (n385.ne rfl (n384.ne rfl s1I372)))
        have e512 := n510.ne rfl (n509.ne rfl (n385.ne rfl (n384.ne rfl s2I372)))
        have e513 := n510.ne rfl (n509.ne rfl (n385.ne rfl (n384.ne rfl s3I372)))
        have e514 := n510.ne rfl (n509.ne rfl (n385.ne rfl (n384.ne rfl s4I372)))
        exact th_n (hKI39 _ _ _ (by omega) ⟨i + 1, a344, c345, ma, mc, rfl, n510.ok, GI372, e511, e512, e513, e514, n510.at_, kb3I372, kb9I372, (by rw [← hre]; exact kb19I372), oVI372, (by rw [← hre]; exact oMI372), zh1I372, by omega⟩)
  · refine wp_cond_false ((n46.at_).trans (congrArg Value.bool (decide_eq_false c48))) ?_
    have hi5 : i = 5 := by omega
    refine wp_exit ?_
    refine th_x ?_
    refine th_x ?_
    refine ib_x ?_
    refine th_n (hK28 _ _ ?_)
    refine wp_seq_k (fun K515 hK515 => ?_)
    refine wp_block ?_
    subst hi5
    have htk : (runsTo (dsX X) 5).take 5 = runsTo (dsX X) 5 := List.take_of_length_le (by rw [runsTo_len]; omega)
    refine lp (fun (nL : Nat) (aL : Act) (wL : World) => ∃ q : Nat, ∃ ua : Option Addr, ∃ uc : Nat, nL = q ∧ Ok 77 aL ∧ Gr w wL ∧ (aL.eval (.tmp 2) = .pointer (some ⟨b9, 0, none⟩)) ∧ (aL.eval (.tmp 3) = .bool false) ∧ (aL.eval (.tmp 4) = .pointer (some ⟨b19, 0, none⟩)) ∧ (Bk wL b9 #[.slice none 0 0, .slice none 0 0] 35) ∧ (Bk wL b19 #[.slice ua q uc, .slice ma ((restTo (dsX X) (5)).length) mc] 35) ∧ (World.ownsRow wL h1 3 1 (.slice ua q uc) (q) (flatI ((runsTo (dsX X) 5).take q))) ∧ (World.ownsRow wL h1 26 2 (.slice ma ((restTo (dsX X) (5)).length) mc) ((restTo (dsX X) (5)).length) (flat (pairs (restTo (dsX X) 5)))) ∧ (h1 ≤ wL.heap.size) ∧ (q ≤ 5) ∧ (∀ s, q ≤ s → s < 5 → cv (runsTo (dsX X) 5) s = 0)) _ ⟨5, va, vc, rfl, n46.ok, GI39, (n46.ne rfl s2I39), (n46.ne rfl s3I39), (n46.ne rfl s4I39), kb9I39, kb19I39, (by rw [htk]; exact oVI39), oMI39, zh1I39, by omega, fun s h1 h2 => by omega⟩ ?_
    rintro m517 aI516 w519 ⟨q, ua, uc, hmI516, okI516, GI516, s2I516, s3I516, s4I516, kb9I516, kb19I516, oVI516, oMI516, zh1I516, hqI516, hzI516⟩ KI516 hKI516
    have hcap := own_cap oVI516
    refine wp_seq_k (fun K520 hK520 => ?_)
    refine wp_seq_k (fun K521 hK521 => ?_)
    refine wp_region_lit ?_
    refine sv okI516 rfl (wn _ rfl) rfl (o_fa (z := 1) s4I516 Try.underlying35 rfl (by kernel_rfl) rfl rfl) (fun an522 n522 => ?_)
    refine sv n522.ok rfl (wn _ rfl) rfl (o_ld n522.at_ (Try.isAgg32 _) (kb19I516.cell _ rfl)) (fun an523 n523 => ?_)
    refine sv n523.ok rfl (wn _ rfl) rfl (o_len n523.at_ Try.underlying32) (fun an524 n524 => ?_)
    refine sv n524.ok rfl (wn _ rfl) rfl (o_gtI n524.at_ ev_const) (fun an525 n525 => ?_)
    refine sv n525.ok rfl (wn _ rfl) rfl (o_mv n525.at_) (fun an526 n526 => ?_)
    by_cases c527 : (0 : Int) < (q : Int)
    · have e528 := (n526.at_).trans (congrArg Value.bool (decide_eq_true c527))
      have e529 := ((n526.ne rfl n525.at_)).trans (congrArg Value.bool (decide_eq_true c527))
      have e530 := n526.ne rfl (n525.ne rfl (n524.ne rfl (n523.ne rfl (n522.ne rfl s4I516))))
      refine sv n526.ok rfl (wgT rfl (yl 4 true rfl e528) rfl) rfl (o_fa (z := 1) e530 Try.underlying35 rfl (by kernel_rfl) rfl rfl) (fun an531 n531 => ?_)
      refine sv n531.ok rfl (wgT rfl (yl 4 true rfl (n531.ne rfl e528)) rfl) rfl (o_ld n531.at_ (Try.isAgg32 _) (kb19I516.cell _ rfl)) (fun an532 n532 => ?_)
      refine sv n532.ok rfl (wgT rfl (yl 4 true rfl (n532.ne rfl (n531.ne rfl e528))) rfl) rfl (o_fa (z := 1) (n532.ne rfl (n531.ne rfl e530)) Try.underlying35 rfl (by kernel_rfl) rfl rfl) (fun an533 n533 => ?_)
      have e534 := n533.ne rfl (n532.ne rfl (n531.ne rfl e528))
      refine sv n533.ok rfl (wgT rfl (yl 4 true rfl e534) rfl) rfl (o_ld n533.at_ (Try.isAgg32 _) (kb19I516.cell _ rfl)) (fun an535 n535 => ?_)
      refine sv n535.ok rfl (wgT rfl (yl 4 true rfl (n535.ne rfl e534)) rfl) rfl (o_len n535.at_ Try.underlying32) (fun an536 n536 => ?_)
      refine sv n536.ok rfl (wgT rfl (yl 4 true rfl (n536.ne rfl (n535.ne rfl e534))) rfl) rfl (o_sub (r := ((q - 1 : Nat) : Int)) n536.at_ ev_const (by omega) (by omega)) (fun an537 n537 => ?_)
      have e538 := n537.ne rfl (n536.ne rfl (n535.ne rfl e534))
      have e539 := n537.ne rfl (n536.ne rfl (n535.ne rfl (n533.ne rfl n532.at_)))
      obtain ⟨gVh540, h540a, -, h540c⟩ := ow_addr oVI516 (by omega)
      refine sv n537.ok rfl (wgT rfl (yl 4 true rfl e538) rfl) rfl (o_iaV (i := q - 1) (s := 1) h540a e539 n537.at_ Try.underlying32 (by kernel_rfl) (by omega)) (fun an541 n541 => ?_)
      refine sv n541.ok rfl (wgT rfl (yl 4 true rfl (n541.ne rfl e538)) rfl) rfl (o_ld n541.at_ (Try.isAgg3 _) (h540c _ _ (runs_take_at (dsX X) (by omega) (by omega)))) (fun an542 n542 => ?_)
      refine sv n542.ok rfl (wgT rfl (yl 4 true rfl (n542.ne rfl (n541.ne rfl e538))) rfl) rfl (o_eqI n542.at_ ev_const) (fun an543 n543 => ?_)
      have e544 := n543.ne rfl (n542.ne rfl (n541.ne rfl e538))
      refine sv n543.ok rfl (wn _ rfl) rfl (o_pkT e544 n543.at_) (fun an545 n545 => ?_)
      refine wpList_nil ?_
      refine th_n (hK521 _ _ ?_)
      by_cases c546 : ((run (dsX X) (q - 1) : Nat) : Int) = 0
      · refine wp_cond_true ((n545.at_).trans (congrArg Value.bool (decide_eq_true c546))) ?_
        have h62 : run (dsX X) (q - 1) = 0 := by omega
        refine wp_skip ?_
        refine th_n (hK520 _ _ ?_)
        refine wp_block ?_
        refine wp_region_lit ?_
        have e547 := n545.ne rfl (n543.ne rfl (n542.ne rfl (n541.ne rfl (n537.ne rfl (n536.ne rfl (n535.ne rfl (n533.ne rfl (n532.ne rfl (n531.ne rfl e530)))))))))
        refine sv n545.ok rfl (wn _ rfl) rfl (o_fa (z := 1) e547 Try.underlying35 rfl (by kernel_rfl) rfl rfl) (fun an548 n548 => ?_)
        refine sv n548.ok rfl (wn _ rfl) rfl (o_ld n548.at_ (Try.isAgg32 _) (kb19I516.cell _ rfl)) (fun an549 n549 => ?_)
        refine sv n549.ok rfl (wn _ rfl) rfl (o_fa (z := 1) (n549.ne rfl (n548.ne rfl e547)) Try.underlying35 rfl (by kernel_rfl) rfl rfl) (fun an550 n550 => ?_)
        refine sv n550.ok rfl (wn _ rfl) rfl (o_ld n550.at_ (Try.isAgg32 _) (kb19I516.cell _ rfl)) (fun an551 n551 => ?_)
        refine sv n551.ok rfl (wn _ rfl) rfl (o_len n551.at_ Try.underlying32) (fun an552 n552 => ?_)
        refine sv n552.ok rfl (wn _ rfl) rfl (o_sub (r := ((q - 1 : Nat) : Int)) n552.at_ ev_const (by omega) (by omega)) (fun an553 n553 => ?_)
        have e554 := n553.ne rfl (n552.ne rfl (n551.ne rfl (n550.ne rfl n549.at_)))
        refine sv n553.ok rfl (wn _ rfl) rfl (o_cut (k := q - 1) (s := 1) e554 n553.at_ Try.underlying32 (by kernel_rfl) (by omega)) (fun an555 n555 => ?_)
        have e556 := n555.ne rfl (n553.ne rfl (n552.ne rfl (n551.ne rfl (n550.ne rfl (n549.ne rfl (n548.ne rfl e547))))))
        refine sv n555.ok rfl (wn _ rfl) rfl (o_fa (z := 1) e556 Try.underlying35 rfl (by kernel_rfl) rfl rfl) (fun an557 n557 => ?_)
        refine ssC rfl (wn _ rfl) (o_st n557.at_ (n557.ne rfl n555.at_) kb19I516 rfl (by kernel_rfl) rfl) kb19I516 (fun w558 u559 u559b => ?_)
        have G560 : Gr w w558 := Below.upd GI516 l24 u559
        have B561 := kb9I516.upd u559 (Nat.ne_of_lt l23)
        have z562 : h1 ≤ w558.heap.size := by rw [u559.size]; exact zh1I516
        have O563 := ow_upd oVI516 u559 l34
        have O564 := ow_upd oMI516 u559 l34
        refine wpList_nil ?_
        refine ib_n ?_
        have e565 := n557.ne rfl (n555.ne rfl (n553.ne rfl (n552.ne rfl (n551.ne rfl (n550.ne rfl (n549.ne rfl (n548.ne rfl (n545.ne rfl (n543.ne rfl (n542.ne rfl (n541.ne rfl (n537.ne rfl (n536.ne rfl (n535.ne rfl (n533.ne rfl (n532.ne rfl (n531.ne rfl (n526.ne rfl (n525.ne rfl (n524.ne rfl (n523.ne rfl (n522.ne rfl s2I516))))))))))))))))))))))
        have e566 := n557.ne rfl (n555.ne rfl (n553.ne rfl (n552.ne rfl (n551.ne rfl (n550.ne rfl (n549.ne rfl (n548.ne rfl (n545.ne rfl (n543.ne rfl (n542.ne rfl (n541.ne rfl (n537.ne rfl (n536.ne rfl (n535.ne rfl (n533.ne rfl (n532.ne rfl (n531.ne rfl (n526.ne rfl (n525.ne rfl (n524.ne rfl (n523.ne rfl (n522.ne rfl s3I516))))))))))))))))))))))
        exact th_n (hKI516 _ _ _ (by omega) ⟨q - 1, ua, uc, rfl, n557.ok, G560, e565, e566, (n557.ne rfl e556), B561, u559b, (own_cut_runs (dsX X) (by omega) O563), O564, z562, by omega, zero_back hzI516 h62 (by omega) (by omega)⟩)
      · refine wp_cond_false ((n545.at_).trans (congrArg Value.bool (decide_eq_false c546))) ?_
        have h62 : run (dsX X) (q - 1) ≠ 0 := by omega
        have hFV := form_vec (dsX X) q hqI516 hzI516 (.inr ⟨by omega, h62⟩)
        refine wp_exit ?_
        refine th_x ?_
        refine th_x ?_
        refine ib_x ?_
        refine th_n (hK515 _ _ ?_)
        refine wp_seq_k (fun K567 hK567 => ?_)
        refine h_start [b9] 7 #[false, false, false, false, false, false, false] (by kernel_rfl) rfl rfl ?_
        have S568 := Sx.drew [b9] w519
        have g569 := (Gr.refl w519).drew
        generalize w519.drew = w570 at *
        have G571 := GI516.trans g569
        have B572 := kb9I516.gr g569
        have B573 := kb19I516.gr g569
        have z574 := Nat.le_trans zh1I516 g569.size
        have O575 := ow_gr oVI516 g569
        have O576 := ow_gr oMI516 g569
        have e577 := n545.ne rfl (n543.ne rfl (n542.ne rfl (n541.ne rfl (n537.ne rfl (n536.ne rfl (n535.ne rfl (n533.ne rfl (n532.ne rfl (n531.ne rfl e530)))))))))
        refine h_take (i := 0) (fuel := 6) n545.ok rfl rfl rfl (by kernel_rfl) (by kernel_rfl) (by kernel_rfl) (fun _ _ _ _ _ h => h) (wn _ rfl) (fun x hx => o_ldR e577 (Sx.bk hx kb19I516 (by simp <;> omega)) Try.underlying35 rfl (by kernel_rfl)) S568 (fun an578 n578 => ?_)
        refine h_take (i := 1) (fuel := 5) n578.ok rfl rfl rfl (by kernel_rfl) (by kernel_rfl) (by kernel_rfl) (fun _ _ _ _ _ h => h) (wn _ rfl) (fun x hx => o_fa (z := 1) (n578.ne rfl e577) Try.underlying35 rfl (by kernel_rfl) rfl rfl) S568 (fun an579 n579 => ?_)
        refine h_take (i := 2) (fuel := 4) n579.ok rfl rfl rfl (by kernel_rfl) (by kernel_rfl) (by kernel_rfl) (fun _ _ _ _ _ h => h) (wn _ rfl) (fun x hx => o_ld n579.at_ (Try.isAgg33 _) ((Sx.bk hx kb19I516 (by simp <;> omega)).cell _ rfl)) S568 (fun an580 n580 => ?_)
        refine h_take (i := 3) (fuel := 3) n580.ok rfl rfl rfl (by kernel_rfl) (by kernel_rfl) (by kernel_rfl) (fun _ _ _ _ _ h => h) (wn _ rfl) (fun x hx => o_len n580.at_ Try.underlying33) S568 (fun an581 n581 => ?_)
        refine h_take (i := 4) (fuel := 2) n581.ok rfl rfl rfl (by kernel_rfl) (by kernel_rfl) (by kernel_rfl) (fun _ _ _ _ _ h => h) (wn _ rfl) (fun x hx => o_leI n581.at_ ev_const) S568 (fun an582 n582 => ?_)
        have e583 := n582.ne rfl (n581.ne rfl (n580.ne rfl (n579.ne rfl (n578.ne rfl (n545.ne rfl (n543.ne rfl (n542.ne rfl (n541.ne rfl (n537.ne rfl (n536.ne rfl (n535.ne rfl (n533.ne rfl (n532.ne rfl (n531.ne rfl (n526.ne rfl (n525.ne rfl (n524.ne rfl (n523.ne rfl (n522.ne rfl s2I516)))))))))))))))))))
        have e584 := n582.ne rfl (n581.ne rfl (n580.ne rfl (n579.ne rfl n578.at_)))
        refine h_stR (i := 5) (fuel := 1) (by kernel_rfl) rfl rfl (wn _ rfl) (o_stR e583 e584 B572 (by kernel_rfl) rfl (by simp [Value.oneCell'])) B572 S568 (by simp) (fun w585 u586 u586b S587 => ?_)
        have G588 : Gr w w585 := Below.upd G571 l13 u586
        have B589 := B573.upd u586 (Nat.ne_of_gt l23)
        have z590 : h1 ≤ w585.heap.size := by rw [u586.size]; exact z574
        have O591 := ow_upd O575 u586 l33
        have O592 := ow_upd O576 u586 l33
        refine h_take (i := 6) (fuel := 0) n582.ok rfl rfl rfl (by kernel_rfl) (by kernel_rfl) (by kernel_rfl) (fun _ _ _ _ _ h => h) (wn _ rfl) (fun x hx => o_as n582.at_) S587 (fun an593 n593 => ?_)
        refine wpAnyH_done (by kernel_rfl) ?_ _
        refine th_n (hK567 _ _ ?_)
        refine wp_ret ?_
        exact ret2 n593.ok rfl (⟨_, _, (n593.ne rfl e583), ld_row u586b Try.underlying35 rfl (by kernel_rfl)⟩) (n593.at_) ⟨_, by rw [leI_dec]; rfl, ⟨_, _, rfl, (by rw [hFV]; exact own_take_len (dsX X) (own_less O591 l35)), own_less O592 l35⟩, G588⟩
    · have e594 := (n526.at_).trans (congrArg Value.bool (decide_eq_false c527))
      have e595 := ((n526.ne rfl n525.at_)).trans (congrArg Value.bool (decide_eq_false c527))
      have hFV := form_vec (dsX X) q hqI516 hzI516 (.inl (by omega))
      refine sn n526.ok rfl (wgF rfl (yl 4 false rfl e594) rfl) rfl (fun an596 n596 => ?_)
      refine sn n596.ok rfl (wgF rfl (yl 4 false rfl (n596.ne rfl e594)) rfl) rfl (fun an597 n597 => ?_)
      refine sn n597.ok rfl (wgF rfl (yl 4 false rfl (n597.ne rfl (n596.ne rfl e594))) rfl) rfl (fun an598 n598 => ?_)
      have e599 := n598.ne rfl (n597.ne rfl (n596.ne rfl e594))
      refine sn n598.ok rfl (wgF rfl (yl 4 false rfl e599) rfl) rfl (fun an600 n600 => ?_)
      refine sn n600.ok rfl (wgF rfl (yl 4 false rfl (n600.ne rfl e599)) rfl) rfl (fun an601 n601 => ?_)
      refine sn n601.ok rfl (wgF rfl (yl 4 false rfl (n601.ne rfl (n600.ne rfl e599))) rfl) rfl (fun an602 n602 => ?_)
      have e603 := n602.ne rfl (n601.ne rfl (n600.ne rfl e599))
      refine sn n602.ok rfl (wgF rfl (yl 4 false rfl e603) rfl) rfl (fun an604 n604 => ?_)
      refine sn n604.ok rfl (wgF rfl (yl 4 false rfl (n604.ne rfl e603)) rfl) rfl (fun an605 n605 => ?_)
      refine sn n605.ok rfl (wgF rfl (yl 4 false rfl (n605.ne rfl (n604.ne rfl e603))) rfl) rfl (fun an606 n606 => ?_)
      have e607 := n606.ne rfl (n605.ne rfl (n604.ne rfl e603))
      refine sv n606.ok rfl (wn _ rfl) rfl (o_pkF e607 ev_const) (fun an608 n608 => ?_)
      refine wpList_nil ?_
      refine th_n (hK521 _ _ ?_)
      refine wp_cond_false (n608.at_) ?_
      refine wp_exit ?_
      refine th_x ?_
      refine th_x ?_
      refine ib_x ?_
      refine th_n (hK515 _ _ ?_)
      refine wp_seq_k (fun K609 hK609 => ?_)
      refine h_start [b9] 7 #[false, false, false, false, false, false, false] (by kernel_rfl) rfl rfl ?_
      have S610 := Sx.drew [b9] w519
      have g611 := (Gr.refl w519).drew
      generalize w519.drew = w612 at *
      have G613 := GI516.trans g611
      have B614 := kb9I516.gr g611
      have B615 := kb19I516.gr g611
      have z616 := Nat.le_trans zh1I516 g611.size
      have O617 := ow_gr oVI516 g611
      have O618 := ow_gr oMI516 g611
      have e619 := n608.ne rfl (n606.ne rfl (n605.ne rfl (n604.ne rfl (n602.ne rfl (n601.ne rfl (n600.ne rfl (n598.ne rfl (n597.ne rfl (n596.ne rfl (n526.ne rfl (n525.ne rfl (n524.ne rfl (n523.ne rfl (n522.ne rfl s4I516))))))))))))))
      refine h_take (i := 0) (fuel := 6) n608.ok rfl rfl rfl (by kernel_rfl) (by kernel_rfl) (by kernel_rfl) (fun _ _ _ _ _ h => h) (wn _ rfl) (fun x hx => o_ldR e619 (Sx.bk hx kb19I516 (by simp <;> omega)) Try.underlying35 rfl (by kernel_rfl)) S610 (fun an620 n620 => ?_)
      refine h_take (i := 1) (fuel := 5) n620.ok rfl rfl rfl (by kernel_rfl) (by kernel_rfl) (by kernel_rfl) (fun _ _ _ _ _ h => h) (wn _ rfl) (fun x hx => o_fa (z := 1) (n620.ne rfl e619) Try.underlying35 rfl (by kernel_rfl) rfl rfl) S610 (fun an621 n621 => ?_)
      refine h_take (i := 2) (fuel := 4) n621.ok rfl rfl rfl (by kernel_rfl) (by kernel_rfl) (by kernel_rfl) (fun _ _ _ _ _ h => h) (wn _ rfl) (fun x hx => o_ld n621.at_ (Try.isAgg33 _) ((Sx.bk hx kb19I516 (by simp <;> omega)).cell _ rfl)) S610 (fun an622 n622 => ?_)
      refine h_take (i := 3) (fuel := 3) n622.ok rfl rfl rfl (by kernel_rfl) (by kernel_rfl) (by kernel_rfl) (fun _ _ _ _ _ h => h) (wn _ rfl) (fun x hx => o_len n622.at_ Try.underlying33) S610 (fun an623 n623 => ?_)
      refine h_take (i := 4) (fuel := 2) n623.ok rfl rfl rfl (by kernel_rfl) (by kernel_rfl) (by kernel_rfl) (fun _ _ _ _ _ h => h) (wn _ rfl) (fun x hx => o_leI n623.at_ ev_const) S610 (fun an624 n624 => ?_)
      have e625 := n624.ne rfl (n623.ne rfl (n622.ne rfl (n621.ne rfl (n620.ne rfl (n608.ne rfl (n606.ne rfl (n605.ne rfl (n604.ne rfl (n602.ne rfl (n601.ne rfl (n600.ne rfl (n598.ne rfl (n597.ne rfl (n596.ne rfl (n526.ne rfl (n525.ne rfl (n524.ne rfl (n523.ne rfl (n522.ne rfl s2I516)))))))))))))))))))
      have e626 := n624.ne rfl (n623.ne rfl (n622.ne rfl (n621.ne rfl n620.at_)))
      refine h_stR (i := 5) (fuel := 1) (by kernel_rfl) rfl rfl (wn _ rfl) (o_stR e625 e626 B614 (by kernel_rfl) rfl (by simp [Value.oneCell'])) B614 S610 (by simp) (fun w627 u628 u628b S629 => ?_)
      have G630 : Gr w w627 := Below.upd G613 l13 u628
      have B631 := B615.upd u628 (Nat.ne_of_gt l23)
      have z632 : h1 ≤ w627.heap.size := by rw [u628.size]; exact z616
      have O633 := ow_upd O617 u628 l33
      have O634 := ow_upd O618 u628 l33
      refine h_take (i := 6) (fuel := 0) n624.ok rfl rfl rfl (by kernel_rfl) (by kernel_rfl) (by kernel_rfl) (fun _ _ _ _ _ h => h) (wn _ rfl) (fun x hx => o_as n624.at_) S629 (fun an635 n635 => ?_)
      refine wpAnyH_done (by kernel_rfl) ?_ _
      refine th_n (hK609 _ _ ?_)
      refine wp_ret ?_
      exact ret2 n635.ok rfl (⟨_, _, (n635.ne rfl e625), ld_row u628b Try.underlying35 rfl (by kernel_rfl)⟩) (n635.at_) ⟨_, by rw [leI_dec]; rfl, ⟨_, _, rfl, (by rw [hFV]; exact own_take_len (dsX X) (own_less O633 l35)), own_less O634 l35⟩, G630⟩
end Go.Proofs.Ytghjfakellaecaa
