/- Joined: FmA, KmA, PtB, KmB, KmC, KmD, KmE, OpenA, OpenK, KmF, KmG, KmI, SpanD, CubeA, SetB, FilA, FilE, FilDA. -/
import Derived.Test.YtghjfakellaecaaGreatPa2
import Derived.Test.YtghjfakellaecaaGreatProg
import Derived.Deep.SlicePairs
import Derived.ProofKit
import Derived.KernelRfl
import Derived.Lib.BitFns
import Derived.Laws.AppendOwnNone
import Derived.Laws.Rows
import Derived.WalkKit
import Derived.WalkSpells
import Derived.WalkLawsBesides
import Derived.Deep.QuietTactic
import Derived.BigQuiet
import Derived.Lib.Hide
import Derived.StillTailTactics
import Derived.Deep.RegionHeld3
import Derived.Deep.AppendLies
import Derived.Deep.DrawnRows
/- The document's Form: a set of dots in its form. -/
set_option linter.unusedVariables false
set_option linter.unusedSimpArgs false
namespace Rm
open Go Go.RowKit
theorem run_is {D : DS} {s n : Nat} (h1 : ∀ c, 1 ≤ c → c ≤ n → D s c = true) (h2 : n = 1000 ∨ D s (n + 1) = false) (hn : n ≤ 1000) : run D s = n := by
  have hle := run_le D s
  rcases Nat.lt_trichotomy (run D s) n with q | q | q
  · have := runTo_gap D s 1000 (show run D s < 1000 by omega)
    rw [show runTo D s 1000 = run D s from rfl, h1 (run D s + 1) (by omega) (by omega)] at this
    cases this
  · exact q
  · rcases h2 with e | e
    · omega
    · have := runTo_all D s 1000 (n + 1) (by omega) (show n + 1 ≤ run D s by omega)
      rw [this] at e; cases e
def runsTo (D : DS) (i : Nat) : List Nat := (List.range i).map (run D)
theorem runsTo_succ (D : DS) (i : Nat) : runsTo D (i + 1) = runsTo D i ++ [run D i] := by simp [runsTo, List.range_succ]
theorem runsTo_len (D : DS) (i : Nat) : (runsTo D i).length = i := by simp [runsTo]
/-- the dots behind the vector, of the first i sites -/
def restTo (D : DS) (i : Nat) : List (Nat × Nat) := (List.range i).flatMap (restD D)
theorem restTo_succ (D : DS) (i : Nat) : restTo D (i + 1) = restTo D i ++ restD D i := by simp [restTo, List.range_succ]
/-- .. of one site, below a count -/
def restB (D : DS) (s c : Nat) : List (Nat × Nat) := ((List.range c).filter fun x => decide (run D s + 2 ≤ x) && D s x).map fun x => (s, x)
theorem restB_all (D : DS) (s : Nat) : restB D s 1001 = restD D s := rfl
theorem restB_start (D : DS) (s c : Nat) (h : c ≤ run D s + 2) : restB D s c = [] := by
  unfold restB
  rw [List.filter_eq_nil_iff.2]
  · rfl
  · intro x hx
    have := List.mem_range.1 hx
    simp; omega
theorem restB_yes {D : DS} {s c : Nat} (h : run D s + 2 ≤ c) (hd : D s c = true) : restB D s (c + 1) = restB D s c ++ [(s, c)] := by
  unfold restB
  rw [List.range_succ, List.filter_append]
  simp [h, hd]
theorem restB_no {D : DS} {s c : Nat} (hd : D s c = false) : restB D s (c + 1) = restB D s c := by
  unfold restB
  rw [List.range_succ, List.filter_append]
  simp [hd]
theorem restB_len (D : DS) (s c : Nat) : (restB D s c).length ≤ c := by
  unfold restB
  rw [List.length_map]
  exact Nat.le_trans (List.length_filter_le _ _) (by simp)
theorem restTo_len (D : DS) (i : Nat) : (restTo D i).length ≤ i * 1001 := by
  induction i with
  | zero => simp [restTo]
  | succ i ih =>
    rw [restTo_succ, List.length_append]
    have := restB_len D i 1001
    rw [restB_all] at this
    omega
set_option maxRecDepth 20000 in
theorem five_runs (D : DS) : five (runsTo D 5) = runsTo D 5 := by
  simp [five, runsTo, cv, List.range_succ]
theorem all_snoc {D : DS} {i n : Nat} (h : ∀ c, 1 ≤ c → c ≤ n → D i c = true) (k : D i (n + 1) = true) : ∀ c, 1 ≤ c → c ≤ n + 1 → D i c = true := by
  intro c h1 h2
  by_cases e : c = n + 1
  · subst e; exact k
  · exact h c h1 (by omega)
theorem rest_end (D : DS) (i c : Nat) {n : Nat} (h1 : n + 2 ≤ c) (h2 : c = 1001 ∨ 1001 < c ∧ c = n + 2) (hR : run D i = n) : restTo D i ++ restB D i c = restTo D (i + 1) := by
  have key : restB D i c = restD D i := by
    rcases h2 with e | ⟨e, e'⟩
    · rw [e, restB_all]
    · rw [← restB_all, restB_start D i c (by omega), restB_start D i 1001 (by omega)]
  rw [restTo_succ, key]
theorem rest_len (D : DS) (i c : Nat) (hi : i < 5) (hc : c ≤ 1001) : (restTo D i ++ restB D i c).length ≤ 6100 := by
  have := restTo_len D i
  have := restB_len D i c
  rw [List.length_append]; omega
theorem restB_app (D : DS) (i c : Nat) (h : run D i + 2 ≤ c) (hd : D i c = true) : (restTo D i ++ restB D i (c + 1)).length = (restTo D i ++ restB D i c).length + 1 ∧ restTo D i ++ restB D i (c + 1) = (restTo D i ++ restB D i c) ++ [(i, c)] := by
  rw [restB_yes h hd, ← List.append_assoc]
  exact ⟨by rw [List.length_append]; rfl, rfl⟩
theorem zero_back {D : DS} {q : Nat} (h : ∀ s, q ≤ s → s < 5 → cv (runsTo D 5) s = 0) (h0 : run D (q - 1) = 0) (hq : 0 < q) (hq5 : q ≤ 5) : ∀ s, q - 1 ≤ s → s < 5 → cv (runsTo D 5) s = 0 := by
  intro s h1 h2
  by_cases e : s = q - 1
  · subst e
    simp [cv, runsTo, List.getD, h2, h0]
  · exact h s (by omega) h2
theorem form_vec (D : DS) (q : Nat) (hq : q ≤ 5) (hz : ∀ s, q ≤ s → s < 5 → cv (runsTo D 5) s = 0) (h : q = 0 ∨ (0 < q ∧ run D (q - 1) ≠ 0)) : formV D = (runsTo D 5).take q := by
  show trimL (runsTo D 5) = _
  have h5 : five (runsTo D 5) = runsTo D 5 := five_runs D
  rw [← h5, trim_take (runsTo D 5) q hq hz ?_]
  rcases h with e | ⟨e, e'⟩
  · exact .inl e
  · refine .inr ?_
    have : cv (runsTo D 5) (q - 1) = run D (q - 1) := by
      have : q - 1 < 5 := by omega
      simp [cv, runsTo, List.getD, this]
    rw [this]; exact e'
end Rm
namespace Go.Proofs.YtghjfakellaecaaGreat
open Go.RowKit Rm Gx
theorem flatI_snoc (V : List Nat) (n : Nat) : flatI V ++ [.int .i64 (n : Int)] = flatI (V ++ [n]) := by simp [flatI]
theorem flatD_snoc (M : List (Nat × Nat)) (s c : Nat) : flat (pairs M) ++ [.int .i64 (s : Int), .int .i64 (c : Int)] = flat (pairs (M ++ [(s, c)])) := by simp [pairs, flat]
theorem bk_cells {w : World} {b : Nat} {cs : List Value} {t : TypeId} (h : Bk w b cs.toArray t) : ∀ j u, cs[j]? = some u → w.cell? ((⟨b, 0, none⟩ : Addr).add j) = some u := by
  intro j u hj
  rw [Gx.add_n, Nat.zero_add]
  exact h.cell j (by simpa using hj)
theorem runs_take_at (D : DS) {q j : Nat} (h : j < q) (hq : q ≤ 5) : (flatI ((runsTo D 5).take q))[0 + j * 1]? = some (.int .i64 ((run D j : Nat) : Int)) := by
  rw [Nat.zero_add, Nat.mul_one]
  unfold flatI
  rw [List.getElem?_map, List.getElem?_take_of_lt h]
  have : j < 5 := by omega
  simp [runsTo, this]
theorem own_cut_runs (D : DS) {w : World} {base : Nat} {e : TypeId} {q k c : Nat} {a : Option Addr} (hk : k ≤ q) (h : w.ownsRow base e 1 (.slice a q c) q (flatI ((runsTo D 5).take q))) : w.ownsRow base e 1 (.slice a k c) k (flatI ((runsTo D 5).take k)) := by
  have := ow_cut h hk
  rw [Nat.mul_one] at this
  have e2 : (flatI ((runsTo D 5).take q)).take k = flatI ((runsTo D 5).take k) := by
    unfold flatI
    rw [← List.map_take, List.take_take, Nat.min_eq_left hk]
  rwa [e2] at this
theorem own_take_len (D : DS) {w : World} {base : Nat} {e : TypeId} {q c : Nat} {a : Option Addr} (h : w.ownsRow base e 1 (.slice a q c) q (flatI ((runsTo D 5).take q))) : w.ownsRow base e 1 (.slice a q c) ((runsTo D 5).take q).length (flatI ((runsTo D 5).take q)) := by
  have h1 := h.1
  have : ((runsTo D 5).take q).length = q := by rw [flatI_len, Nat.mul_one] at h1; exact h1
  rw [this]; exact h
theorem leI_dec (n : Nat) : decide ((n : Int) ≤ 60) = decide (n ≤ 60) := by rw [Bool.eq_iff_iff]; simp only [decide_eq_true_eq]; omega
theorem own_cap {w : World} {base : Nat} {e : TypeId} {s n c : Nat} {a : Option Addr} {xs : List Value} (h : w.ownsRow base e s (.slice a n c) n xs) : n ≤ c := by
  obtain ⟨a', c', e, h⟩ := ow_form h
  injection e with _ _ e3
  omega
set_option maxHeartbeats 8000000 in
set_option maxRecDepth 100000 in
theorem rform_any (X : Nat → Nat) (hX : OkX X) (w : World) :
    Calls Tryz.prog 52 #[.agg (wArr X)] w fun e w' => ∃ k, e = .returned (.tuple #[k, .bool (decide ((formM (dsX X)).length ≤ 60))]) ∧ KnO w.heap.size w' k (formV (dsX X)) (formM (dsX X)) ∧ Gr w w' := by
  refine enter (N := 77) Tryz.func52 rfl rfl rfl (fun a0 ok0 h0 => ?_)
  have e0_0 : a0.eval (.tmp 0) = .agg (wArr X) := h0 0 _ rfl
  clear h0
  have G0 := Gr.refl w
  refine wp_seq_k (fun K1 hK1 => ?_)
  refine wp_region_lit ?_
  refine sal (cs := wArr X) ok0 rfl (wn _ rfl) rfl (o_box e0_0) (fun an2 w4 b3 W5 n2 => ?_)
  have l6 : w.heap.size ≤ b3 := by rw [W5.eq]; exact G0.size
  have G7 := G0.trans W5.gr
  refine sal (cs := #[.slice none 0 0, .slice none 0 0]) n2.ok rfl (wn _ rfl) rfl (o_al (z := .agg #[.slice none 0 0, .slice none 0 0]) (by kernel_rfl)) (fun an8 w10 b9 W11 n8 => ?_)
  have l12 : b3 < b9 := by rw [W11.eq]; exact W5.bk.lt
  have l13 : w.heap.size ≤ b9 := by rw [W11.eq]; exact G7.size
  have G14 := G7.trans W11.gr
  have B15 := W5.bk.gr W11.gr
  refine sv n8.ok rfl (wn _ rfl) rfl (o_as ev_const) (fun an16 n16 => ?_)
  refine wpList_nil ?_
  refine th_n (hK1 _ _ ?_)
  refine wp_seq_k (fun K17 hK17 => ?_)
  refine wp_region_lit ?_
  refine sal (cs := #[.slice none 0 0, .slice none 0 0]) n16.ok rfl (wn _ rfl) rfl (o_al (z := .agg #[.slice none 0 0, .slice none 0 0]) (by kernel_rfl)) (fun an18 w20 b19 W21 n18 => ?_)
  have l22 : b3 < b19 := by rw [W21.eq]; exact B15.lt
  have l23 : b9 < b19 := by rw [W21.eq]; exact W11.bk.lt
  have l24 : w.heap.size ≤ b19 := by rw [W21.eq]; exact G14.size
  have G25 := G14.trans W21.gr
  have B26 := B15.gr W21.gr
  have B27 := W11.bk.gr W21.gr
  refine wpList_nil ?_
  refine th_n (hK17 _ _ ?_)
  refine wp_seq_k (fun K28 hK28 => ?_)
  refine wp_seq_k (fun K29 hK29 => ?_)
  refine wp_region_lit ?_
  refine sv n18.ok rfl (wn _ rfl) rfl (o_mv ev_const) (fun an30 n30 => ?_)
  refine wpList_nil ?_
  refine th_n (hK29 _ _ ?_)
  refine wp_block ?_
  obtain ⟨h1, z31⟩ : ∃ n, n = w20.heap.size := ⟨_, rfl⟩
  have l32 : b3 < h1 := by rw [z31]; exact B26.lt
  have l33 : b9 < h1 := by rw [z31]; exact B27.lt
  have l34 : b19 < h1 := by rw [z31]; exact W21.bk.lt
  have l35 : w.heap.size ≤ h1 := by rw [z31]; exact G25.size
  have z36 : h1 ≤ w20.heap.size := Nat.le_of_eq z31
  have O37 := World.ownsRow_nil w20 h1 3 1
  have O38 := World.ownsRow_nil w20 h1 58 2
  have e40 := n30.ne rfl (n18.ne rfl (n16.ne rfl (n8.ne rfl n2.at_)))
  have e41 := n30.ne rfl (n18.ne rfl (n16.ne rfl n8.at_))
  refine lp (fun (nL : Nat) (aL : Act) (wL : World) => ∃ i : Nat, ∃ va : Option Addr, ∃ vc : Nat, ∃ ma : Option Addr, ∃ mc : Nat, nL = 5 - i ∧ Ok 77 aL ∧ Gr w wL ∧ (aL.eval (.tmp 1) = .pointer (some ⟨b3, 0, none⟩)) ∧ (aL.eval (.tmp 2) = .pointer (some ⟨b9, 0, none⟩)) ∧ (aL.eval (.tmp 3) = .bool false) ∧ (aL.eval (.tmp 4) = .pointer (some ⟨b19, 0, none⟩)) ∧ (aL.eval (.tmp 9) = .int .i64 (i : Int)) ∧ (Bk wL b3 (wArr X) 49) ∧ (Bk wL b9 #[.slice none 0 0, .slice none 0 0] 33) ∧ (Bk wL b19 #[.slice va i vc, .slice ma ((restTo (dsX X) (i)).length) mc] 33) ∧ (World.ownsRow wL h1 3 1 (.slice va i vc) (i) (flatI (runsTo (dsX X) i))) ∧ (World.ownsRow wL h1 58 2 (.slice ma ((restTo (dsX X) (i)).length) mc) ((restTo (dsX X) (i)).length) (flat (pairs (restTo (dsX X) i)))) ∧ (h1 ≤ wL.heap.size) ∧ (i ≤ 5)) _ ⟨0, none, 0, none, 0, rfl, n30.ok, G25, e40, e41, (n30.ne rfl (n18.ne rfl n16.at_)), (n30.ne rfl n18.at_), n30.at_, B26, B27, W21.bk, O37, O38, z36, by omega⟩ ?_
  rintro m42 aI39 w44 ⟨i, va, vc, ma, mc, hmI39, okI39, GI39, s1I39, s2I39, s3I39, s4I39, s9I39, kb3I39, kb9I39, kb19I39, oVI39, oMI39, zh1I39, hiI39⟩ KI39 hKI39
  refine wp_seq_k (fun K45 hK45 => ?_)
  refine wp_region_lit ?_
  refine sv okI39 rfl (wn _ rfl) rfl (o_ltI s9I39 ev_const) (fun an46 n46 => ?_)
  refine wpList_nil ?_
  refine th_n (hK45 _ _ ?_)
  refine wp_seq_k (fun K47 hK47 => ?_)
  by_cases c48 : (i : Int) < 5
  · refine wp_cond_true ((n46.at_).trans (congrArg Value.bool (decide_eq_true c48))) ?_
    refine wp_skip ?_
    refine th_n (hK47 _ _ ?_)
    refine wp_seq_k (fun K49 hK49 => ?_)
    refine wp_block ?_
    refine wp_seq_k (fun K50 hK50 => ?_)
    refine wp_region_lit ?_
    refine sv n46.ok rfl (wn _ rfl) rfl (o_mv (n46.ne rfl s9I39)) (fun an51 n51 => ?_)
    refine sv n51.ok rfl (wn _ rfl) rfl (o_as n51.at_) (fun an52 n52 => ?_)
    refine wpList_nil ?_
    refine th_n (hK50 _ _ ?_)
    refine wp_seq_k (fun K53 hK53 => ?_)
    refine wp_region_lit ?_
    refine sv n52.ok rfl (wn _ rfl) rfl (o_as ev_const) (fun an54 n54 => ?_)
    refine wpList_nil ?_
    refine th_n (hK53 _ _ ?_)
    refine wp_seq_k (fun K55 hK55 => ?_)
    refine wp_block ?_
    have e57 := n54.ne rfl (n52.ne rfl (n51.ne rfl (n46.ne rfl s1I39)))
    have e58 := n54.ne rfl (n52.ne rfl (n51.ne rfl (n46.ne rfl s2I39)))
    have e59 := n54.ne rfl (n52.ne rfl (n51.ne rfl (n46.ne rfl s3I39)))
    have e60 := n54.ne rfl (n52.ne rfl (n51.ne rfl (n46.ne rfl s4I39)))
    have e61 := n54.ne rfl (n52.ne rfl (n51.ne rfl (n46.ne rfl s9I39)))
    refine lp (fun (nL : Nat) (aL : Act) (wL : World) => ∃ n : Nat, nL = 1000 - n ∧ Ok 77 aL ∧ Gr w wL ∧ (aL.eval (.tmp 1) = .pointer (some ⟨b3, 0, none⟩)) ∧ (aL.eval (.tmp 2) = .pointer (some ⟨b9, 0, none⟩)) ∧ (aL.eval (.tmp 3) = .bool false) ∧ (aL.eval (.tmp 4) = .pointer (some ⟨b19, 0, none⟩)) ∧ (aL.eval (.tmp 5) = .int .i64 (i : Int)) ∧ (aL.eval (.tmp 6) = .int .i64 (n : Int)) ∧ (aL.eval (.tmp 9) = .int .i64 (i : Int)) ∧ (Bk wL b3 (wArr X) 49) ∧ (Bk wL b9 #[.slice none 0 0, .slice none 0 0] 33) ∧ (Bk wL b19 #[.slice va i vc, .slice ma ((restTo (dsX X) (i)).length) mc] 33) ∧ (World.ownsRow wL h1 3 1 (.slice va i vc) (i) (flatI (runsTo (dsX X) i))) ∧ (World.ownsRow wL h1 58 2 (.slice ma ((restTo (dsX X) (i)).length) mc) ((restTo (dsX X) (i)).length) (flat (pairs (restTo (dsX X) i)))) ∧ (h1 ≤ wL.heap.size) ∧ (n ≤ 1000) ∧ (∀ c, 1 ≤ c → c ≤ n → (dsX X) i c = true)) _ ⟨0, rfl, n54.ok, GI39, e57, e58, e59, e60, (n54.ne rfl n52.at_), n54.at_, e61, kb3I39, kb9I39, kb19I39, oVI39, oMI39, zh1I39, by omega, fun c h1 h2 => by omega⟩ ?_
    rintro m62 aI56 w64 ⟨n, hmI56, okI56, GI56, s1I56, s2I56, s3I56, s4I56, s5I56, s6I56, s9I56, kb3I56, kb9I56, kb19I56, oVI56, oMI56, zh1I56, hnI56, hallI56⟩ KI56 hKI56
    refine wp_seq_k (fun K65 hK65 => ?_)
    refine wp_seq_k (fun K66 hK66 => ?_)
    refine wp_region_lit ?_
    refine sv okI56 rfl (wn _ rfl) rfl (o_mv s6I56) (fun an67 n67 => ?_)
    refine sv n67.ok rfl (wn _ rfl) rfl (o_ltI n67.at_ ev_const) (fun an68 n68 => ?_)
    refine sv n68.ok rfl (wn _ rfl) rfl (o_mv n68.at_) (fun an69 n69 => ?_)
    by_cases c70 : (n : Int) < 1000
    · have e71 := (n69.at_).trans (congrArg Value.bool (decide_eq_true c70))
      have e72 := ((n69.ne rfl n68.at_)).trans (congrArg Value.bool (decide_eq_true c70))
      have e73 := n69.ne rfl (n68.ne rfl (n67.ne rfl s1I56))
      refine sv n69.ok rfl (wgT rfl (yl 2 true rfl e71) rfl) rfl (o_ldR e73 kb3I56 Tryz.underlying49 rfl (dots_sz X)) (fun an74 n74 => ?_)
      have e75 := n74.ne rfl (n69.ne rfl (n68.ne rfl (n67.ne rfl s5I56)))
      refine sv n74.ok rfl (wgT rfl (yl 2 true rfl (n74.ne rfl e71)) rfl) rfl (o_mv e75) (fun an76 n76 => ?_)
      have e77 := n76.ne rfl (n74.ne rfl (n69.ne rfl (n68.ne rfl (n67.ne rfl s6I56))))
      refine sv n76.ok rfl (wgT rfl (yl 2 true rfl (n76.ne rfl (n74.ne rfl e71))) rfl) rfl (o_mv e77) (fun an78 n78 => ?_)
      have e79 := n78.ne rfl (n76.ne rfl (n74.ne rfl e71))
      refine sv n78.ok rfl (wgT rfl (yl 2 true rfl e79) rfl) rfl (o_add (r := ((n + 1 : Nat) : Int)) n78.at_ ev_const (by omega) (by omega)) (fun an80 n80 => ?_)
      refine sv n80.ok rfl (wgT rfl (yl 2 true rfl (n80.ne rfl e79)) rfl) rfl (o_bd (cells := #[.int .i64 (i : Int), .int .i64 ((n + 1 : Nat) : Int)]) (vs := [(0, .int .i64 (i : Int)), (1, .int .i64 ((n + 1 : Nat) : Int))]) (by simp [(n80.ne rfl (n78.ne rfl n76.at_)), n80.at_, ev_const]) (by kernel_rfl)) (fun an81 n81 => ?_)
      have e82 := n81.ne rfl (n80.ne rfl (n78.ne rfl (n76.ne rfl n74.at_)))
      refine sc n81.ok rfl (wgT rfl (yl 2 true rfl (n81.ne rfl (n80.ne rfl e79))) rfl) rfl (o_f2 Tryz.func106 rfl rfl rfl e82 n81.at_) (rhas_any X (i) (n + 1) w64 hX (by omega) (by omega)) ?_
      rintro _ w84 ⟨rfl, g85⟩
      refine ⟨_, rfl, fun an83 n83 => ?_⟩
      have G86 := GI56.trans g85
      have B87 := kb3I56.gr g85
      have B88 := kb9I56.gr g85
      have B89 := kb19I56.gr g85
      have z90 := Nat.le_trans zh1I56 g85.size
      have O91 := ow_gr oVI56 g85
      have O92 := ow_gr oMI56 g85
      have e93 := n83.ne rfl (n81.ne rfl (n80.ne rfl e79))
      refine sv n83.ok rfl (wn _ rfl) rfl (o_pkT e93 n83.at_) (fun an94 n94 => ?_)
      refine wpList_nil ?_
      refine th_n (hK66 _ _ ?_)
      cases c95 : (dsX X (i) (n + 1))
      · refine wp_cond_false ((n94.at_).trans (congrArg Value.bool (c95))) ?_
        have hR : run (dsX X) i = n := run_is hallI56 (.inr c95) hnI56
        refine wp_exit ?_
        refine th_x ?_
        refine th_x ?_
        refine ib_x ?_
        refine th_n (hK55 _ _ ?_)
        refine wp_seq_k (fun K96 hK96 => ?_)
        refine wp_region_lit ?_
        have e97 := n94.ne rfl (n83.ne rfl (n81.ne rfl (n80.ne rfl (n78.ne rfl (n76.ne rfl (n74.ne rfl (n69.ne rfl (n68.ne rfl (n67.ne rfl s4I56)))))))))
        refine sv n94.ok rfl (wn _ rfl) rfl (o_fa (z := 1) e97 Tryz.underlying33 rfl (by kernel_rfl) rfl rfl) (fun an98 n98 => ?_)
        refine sv n98.ok rfl (wn _ rfl) rfl (o_ld n98.at_ (Tryz.isAgg30 _) (B89.cell _ rfl)) (fun an99 n99 => ?_)
        have e100 := n99.ne rfl (n98.ne rfl (n94.ne rfl (n83.ne rfl (n81.ne rfl (n80.ne rfl (n78.ne rfl e77))))))
        refine sv n99.ok rfl (wn _ rfl) rfl (o_mv e100) (fun an101 n101 => ?_)
        obtain ⟨i102, i102a, i102b, i102c⟩ := info3_of (show (Tryz.prog.info? 3).map (fun i => (i.zero, i.size)) = some (some (.int .i64 0), 1) by kernel_rfl)
        refine sals (cs := #[.int .i64 (n : Int)]) n101.ok rfl (wn _ rfl) rfl (o_bs (vs := [(0, .int .i64 (n : Int))]) (by simp [n101.at_, ev_const]) Tryz.underlying30 i102a i102b (by rw [i102c]; rfl) (by rw [i102c]; rfl) (by rw [i102c]; kernel_rfl)) (fun an103 w105 b104 W106 n103 => ?_)
        have l107 : b3 < b104 := by rw [W106.eq]; exact B87.lt
        have l108 : b9 < b104 := by rw [W106.eq]; exact B88.lt
        have l109 : b19 < b104 := by rw [W106.eq]; exact B89.lt
        have l110 : w.heap.size ≤ b104 := by rw [W106.eq]; exact G86.size
        have l111 : ∀ k, Value.ownBlock (.slice va i vc) = some k → k < b104 := fun k e => by rw [W106.eq]; exact ow_in O91 k e
        have l112 : ∀ k, Value.ownBlock (.slice ma ((restTo (dsX X) (i)).length) mc) = some k → k < b104 := fun k e => by rw [W106.eq]; exact ow_in O92 k e
        have G113 := G86.trans W106.gr
        have B114 := B87.gr W106.gr
        have B115 := B88.gr W106.gr
        have B116 := B89.gr W106.gr
        have z117 := Nat.le_trans z90 W106.gr.size
        have O118 := ow_gr O91 W106.gr
        have O119 := ow_gr O92 W106.gr
        obtain ⟨i120, i120a, i120b, i120c, i120d⟩ := info_of (show (Tryz.prog.info? 3).map (fun i => (i.zero, i.size, i.bytes)) = some (some (.int .i64 0), 1, 8) by kernel_rfl)
        refine s_app (base := h1) (n := i) (xs := flatI (runsTo (dsX X) i)) (m := 1) (news := [.int .i64 (n : Int)]) n103.ok (wn _ rfl) rfl Tryz.underlying30 i120a i120b i120c i120d rfl (by omega) (n103.ne rfl (n101.ne rfl n99.at_)) O118 n103.at_ rfl (fun j u hj => bk_cells W106.bk j u hj) (fun u hu => by simp at hu; subst hu; rfl) (by simp only [maxLen]; omega) (by omega) z117 (fun an121 w122 v123 O126 gg127 n121 => ?_)
        obtain ⟨a124, c125, rfl, c125l⟩ := ow_form O126
        have G128 := Gr.grown G113 gg127 (fun k e => Nat.le_trans l35 (ow_lt O118 k e))
        have B129 := B114.grown gg127 (ow_lt O118) l32
        have B130 := B115.grown gg127 (ow_lt O118) l33
        have B131 := B116.grown gg127 (ow_lt O118) l34
        have B132 := W106.bk.grown_ne gg127 l111
        have z133 := Nat.le_trans z117 gg127.size
        have O134 := ow_grown O119 O118 gg127 rfl
        have O135 : w122.ownsRow h1 3 1 (.slice a124 (i + 1) c125) (i + 1) (flatI (runsTo (dsX X) (i + 1))) := by rw [runsTo_succ, hR, ← flatI_snoc]; exact O126
        have e136 := n121.ne rfl (n103.ne rfl (n101.ne rfl (n99.ne rfl (n98.ne rfl e97))))
        refine sv n121.ok rfl (wn _ rfl) rfl (o_fa (z := 1) e136 Tryz.underlying33 rfl (by kernel_rfl) rfl rfl) (fun an137 n137 => ?_)
        refine ssC rfl (wn _ rfl) (o_st n137.at_ (n137.ne rfl n121.at_) B131 rfl (by kernel_rfl) rfl) B131 (fun w138 u139 u139b => ?_)
        have G140 : Gr w w138 := Below.upd G128 l24 u139
        have B141 := B129.upd u139 (Nat.ne_of_lt l22)
        have B142 := B130.upd u139 (Nat.ne_of_lt l23)
        have B143 := B132.upd u139 (Nat.ne_of_gt l109)
        have z144 : h1 ≤ w138.heap.size := by rw [u139.size]; exact z133
        have O145 := ow_upd O135 u139 l34
        have O146 := ow_upd O134 u139 l34
        refine wpList_nil ?_
        refine th_n (hK96 _ _ ?_)
        refine wp_seq_k (fun K147 hK147 => ?_)
        refine wp_region_lit ?_
        have e148 := n137.ne rfl (n121.ne rfl (n103.ne rfl (n101.ne rfl e100)))
        refine sv n137.ok rfl (wn _ rfl) rfl (o_mv e148) (fun an149 n149 => ?_)
        refine sv n149.ok rfl (wn _ rfl) rfl (o_add (r := ((n + 2 : Nat) : Int)) n149.at_ ev_const (by omega) (by omega)) (fun an150 n150 => ?_)
        refine sv n150.ok rfl (wn _ rfl) rfl (o_as n150.at_) (fun an151 n151 => ?_)
        refine wpList_nil ?_
        refine th_n (hK147 _ _ ?_)
        refine wp_block ?_
        have hst : restTo (dsX X) i ++ restB (dsX X) i (n + 2) = restTo (dsX X) i := by rw [restB_start (dsX X) i (n + 2) (by omega), List.append_nil]
        have e153 := n151.ne rfl (n150.ne rfl (n149.ne rfl (n137.ne rfl (n121.ne rfl (n103.ne rfl (n101.ne rfl (n99.ne rfl (n98.ne rfl (n94.ne rfl (n83.ne rfl (n81.ne rfl (n80.ne rfl (n78.ne rfl (n76.ne rfl (n74.ne rfl e73)))))))))))))))
        have e154 := n151.ne rfl (n150.ne rfl (n149.ne rfl (n137.ne rfl (n121.ne rfl (n103.ne rfl (n101.ne rfl (n99.ne rfl (n98.ne rfl (n94.ne rfl (n83.ne rfl (n81.ne rfl (n80.ne rfl (n78.ne rfl (n76.ne rfl (n74.ne rfl (n69.ne rfl (n68.ne rfl (n67.ne rfl s2I56))))))))))))))))))
        have e155 := n151.ne rfl (n150.ne rfl (n149.ne rfl (n137.ne rfl (n121.ne rfl (n103.ne rfl (n101.ne rfl (n99.ne rfl (n98.ne rfl (n94.ne rfl (n83.ne rfl (n81.ne rfl (n80.ne rfl (n78.ne rfl (n76.ne rfl (n74.ne rfl (n69.ne rfl (n68.ne rfl (n67.ne rfl s3I56))))))))))))))))))
        have e156 := n151.ne rfl (n150.ne rfl (n149.ne rfl (n137.ne rfl e136)))
        have e157 := n151.ne rfl (n150.ne rfl (n149.ne rfl (n137.ne rfl (n121.ne rfl (n103.ne rfl (n101.ne rfl (n99.ne rfl (n98.ne rfl (n94.ne rfl (n83.ne rfl (n81.ne rfl (n80.ne rfl (n78.ne rfl (n76.ne rfl e75))))))))))))))
        have e158 := n151.ne rfl (n150.ne rfl (n149.ne rfl (n137.ne rfl (n121.ne rfl (n103.ne rfl (n101.ne rfl (n99.ne rfl (n98.ne rfl (n94.ne rfl (n83.ne rfl (n81.ne rfl (n80.ne rfl (n78.ne rfl (n76.ne rfl (n74.ne rfl (n69.ne rfl (n68.ne rfl (n67.ne rfl s9I56))))))))))))))))))
        refine lp (fun (nL : Nat) (aL : Act) (wL : World) => ∃ c : Nat, ∃ ma : Option Addr, ∃ mc : Nat, nL = 1002 - c ∧ Ok 77 aL ∧ Gr w wL ∧ (aL.eval (.tmp 1) = .pointer (some ⟨b3, 0, none⟩)) ∧ (aL.eval (.tmp 2) = .pointer (some ⟨b9, 0, none⟩)) ∧ (aL.eval (.tmp 3) = .bool false) ∧ (aL.eval (.tmp 4) = .pointer (some ⟨b19, 0, none⟩)) ∧ (aL.eval (.tmp 5) = .int .i64 (i : Int)) ∧ (aL.eval (.tmp 7) = .int .i64 (c : Int)) ∧ (aL.eval (.tmp 9) = .int .i64 (i : Int)) ∧ (Bk wL b3 (wArr X) 49) ∧ (Bk wL b9 #[.slice none 0 0, .slice none 0 0] 33) ∧ (Bk wL b19 #[.slice a124 (i + 1) c125, .slice ma ((restTo (dsX X) i ++ restB (dsX X) i c).length) mc] 33) ∧ (World.ownsRow wL h1 3 1 (.slice a124 (i + 1) c125) (i + 1) (flatI (runsTo (dsX X) (i + 1)))) ∧ (World.ownsRow wL h1 58 2 (.slice ma ((restTo (dsX X) i ++ restB (dsX X) i c).length) mc) ((restTo (dsX X) i ++ restB (dsX X) i c).length) (flat (pairs (restTo (dsX X) i ++ restB (dsX X) i c)))) ∧ (h1 ≤ wL.heap.size) ∧ (n + 2 ≤ c) ∧ (c ≤ 1001 ∨ c = n + 2)) _ ⟨n + 2, ma, mc, rfl, n151.ok, G140, e153, e154, e155, e156, e157, n151.at_, e158, B141, B142, (by rw [hst]; exact u139b), O145, (by rw [hst]; exact O146), z144, by omega, by omega⟩ ?_
        rintro m159 aI152 w161 ⟨c, ma, mc, hmI152, okI152, GI152, s1I152, s2I152, s3I152, s4I152, s5I152, s7I152, s9I152, kb3I152, kb9I152, kb19I152, oVI152, oMI152, zh1I152, hc1I152, hc2I152⟩ KI152 hKI152
        refine wp_seq_k (fun K162 hK162 => ?_)
        refine wp_seq_k (fun K163 hK163 => ?_)
        refine wp_region_lit ?_
        refine sv okI152 rfl (wn _ rfl) rfl (o_mv s7I152) (fun an164 n164 => ?_)
        refine sv n164.ok rfl (wn _ rfl) rfl (o_leI n164.at_ ev_const) (fun an165 n165 => ?_)
        refine wpList_nil ?_
        refine th_n (hK163 _ _ ?_)
        by_cases c166 : (c : Int) ≤ 1000
        · refine wp_cond_true ((n165.at_).trans (congrArg Value.bool (decide_eq_true c166))) ?_
          refine wp_skip ?_
          refine th_n (hK162 _ _ ?_)
          refine wp_seq_k (fun K167 hK167 => ?_)
          refine wp_block ?_
          refine wp_seq_k (fun K168 hK168 => ?_)
          refine wp_region_lit ?_
          refine sv n165.ok rfl (wn _ rfl) rfl (o_mv (n165.ne rfl (n164.ne rfl s5I152))) (fun an169 n169 => ?_)
          have e170 := n169.ne rfl (n165.ne rfl (n164.ne rfl s7I152))
          refine sv n169.ok rfl (wn _ rfl) rfl (o_mv e170) (fun an171 n171 => ?_)
          refine sv n171.ok rfl (wn _ rfl) rfl (o_bd (cells := #[.int .i64 (i : Int), .int .i64 (c : Int)]) (vs := [(0, .int .i64 (i : Int)), (1, .int .i64 (c : Int))]) (by simp [(n171.ne rfl n169.at_), n171.at_, ev_const]) (by kernel_rfl)) (fun an172 n172 => ?_)
          refine sal (cs := #[.int .i64 0, .int .i64 0]) n172.ok rfl (wn _ rfl) rfl (o_al (z := .agg #[.int .i64 0, .int .i64 0]) (by kernel_rfl)) (fun an173 w175 b174 W176 n173 => ?_)
          have l177 : b3 < b174 := by rw [W176.eq]; exact kb3I152.lt
          have l178 : b9 < b174 := by rw [W176.eq]; exact kb9I152.lt
          have l179 : b19 < b174 := by rw [W176.eq]; exact kb19I152.lt
          have l180 : w.heap.size ≤ b174 := by rw [W176.eq]; exact GI152.size
          have l181 : ∀ k, Value.ownBlock (.slice a124 (i + 1) c125) = some k → k < b174 := fun k e => by rw [W176.eq]; exact ow_in oVI152 k e
          have l182 : ∀ k, Value.ownBlock (.slice ma ((restTo (dsX X) i ++ restB (dsX X) i c).length) mc) = some k → k < b174 := fun k e => by rw [W176.eq]; exact ow_in oMI152 k e
          have G183 := GI152.trans W176.gr
          have B184 := kb3I152.gr W176.gr
          have B185 := kb9I152.gr W176.gr
          have B186 := kb19I152.gr W176.gr
          have z187 := Nat.le_trans zh1I152 W176.gr.size
          have O188 := ow_gr oVI152 W176.gr
          have O189 := ow_gr oMI152 W176.gr
          refine ssR rfl (wn _ rfl) (o_stR n173.at_ (n173.ne rfl n172.at_) W176.bk (by kernel_rfl) rfl (by simp [Value.oneCell'])) W176.bk (fun w190 u191 u191b => ?_)
          have G192 : Gr w w190 := Below.upd G183 l180 u191
          have B193 := B184.upd u191 (Nat.ne_of_lt l177)
          have B194 := B185.upd u191 (Nat.ne_of_lt l178)
          have B195 := B186.upd u191 (Nat.ne_of_lt l179)
          have z196 : h1 ≤ w190.heap.size := by rw [u191.size]; exact z187
          have O197 := ow_upd_ne O188 u191 l181
          have O198 := ow_upd_ne O189 u191 l182
          refine wpList_nil ?_
          refine th_n (hK168 _ _ ?_)
          refine wp_seq_k (fun K199 hK199 => ?_)
          refine wp_region_lit ?_
          have e200 := n173.ne rfl (n172.ne rfl (n171.ne rfl (n169.ne rfl (n165.ne rfl (n164.ne rfl s1I152)))))
          refine sv n173.ok rfl (wn _ rfl) rfl (o_ldR e200 B193 Tryz.underlying49 rfl (dots_sz X)) (fun an201 n201 => ?_)
          refine sv n201.ok rfl (wn _ rfl) rfl (o_ldR (n201.ne rfl n173.at_) u191b Tryz.underlying58 rfl (by kernel_rfl)) (fun an202 n202 => ?_)
          refine sc n202.ok rfl (wn _ rfl) rfl (o_f2 Tryz.func106 rfl rfl rfl (n202.ne rfl n201.at_) n202.at_) (rhas_any X (i) (c) w190 hX (by omega) (by omega)) ?_
          rintro _ w204 ⟨rfl, g205⟩
          refine ⟨_, rfl, fun an203 n203 => ?_⟩
          have G206 := G192.trans g205
          have B207 := B193.gr g205
          have B208 := B194.gr g205
          have B209 := B195.gr g205
          have B210 := u191b.gr g205
          have z211 := Nat.le_trans z196 g205.size
          have O212 := ow_gr O197 g205
          have O213 := ow_gr O198 g205
          refine wpList_nil ?_
          refine th_n (hK199 _ _ ?_)
          cases c214 : (dsX X (i) (c))
          · refine wp_cond_false ((n203.at_).trans (congrArg Value.bool (c214))) ?_
            have h41 : (dsX X) i c = false := c214
            refine wp_skip ?_
            refine ib_n ?_
            refine th_n (hK167 _ _ ?_)
            refine wp_region_lit ?_
            have e215 := n203.ne rfl (n202.ne rfl (n201.ne rfl (n173.ne rfl (n172.ne rfl (n171.ne rfl e170)))))
            refine sv n203.ok rfl (wn _ rfl) rfl (o_mv e215) (fun an216 n216 => ?_)
            refine sv n216.ok rfl (wn _ rfl) rfl (o_add (r := ((c + 1 : Nat) : Int)) n216.at_ ev_const (by omega) (by omega)) (fun an217 n217 => ?_)
            refine sv n217.ok rfl (wn _ rfl) rfl (o_as n217.at_) (fun an218 n218 => ?_)
            refine wpList_nil ?_
            have e219 := n218.ne rfl (n217.ne rfl (n216.ne rfl (n203.ne rfl (n202.ne rfl (n201.ne rfl e200)))))
            have e220 := n218.ne rfl (n217.ne rfl (n216.ne rfl (n203.ne rfl (n202.ne rfl (n201.ne rfl (n173.ne rfl (n172.ne rfl (n171.ne rfl (n169.ne rfl (n165.ne rfl (n164.ne rfl s2I152)))))))))))
            have e221 := n218.ne rfl (n217.ne rfl (n216.ne rfl (n203.ne rfl (n202.ne rfl (n201.ne rfl (n173.ne rfl (n172.ne rfl (n171.ne rfl (n169.ne rfl (n165.ne rfl (n164.ne rfl s3I152)))))))))))
            have e222 := n218.ne rfl (n217.ne rfl (n216.ne rfl (n203.ne rfl (n202.ne rfl (n201.ne rfl (n173.ne rfl (n172.ne rfl (n171.ne rfl (n169.ne rfl (n165.ne rfl (n164.ne rfl s4I152)))))))))))
            have e223 := n218.ne rfl (n217.ne rfl (n216.ne rfl (n203.ne rfl (n202.ne rfl (n201.ne rfl (n173.ne rfl (n172.ne rfl (n171.ne rfl (n169.ne rfl (n165.ne rfl (n164.ne rfl s5I152)))))))))))
            have e224 := n218.ne rfl (n217.ne rfl (n216.ne rfl (n203.ne rfl (n202.ne rfl (n201.ne rfl (n173.ne rfl (n172.ne rfl (n171.ne rfl (n169.ne rfl (n165.ne rfl (n164.ne rfl s9I152)))))))))))
            exact th_n (hKI152 _ _ _ (by omega) ⟨c + 1, ma, mc, rfl, n218.ok, G206, e219, e220, e221, e222, e223, n218.at_, e224, B207, B208, (by rw [restB_no h41]; exact B209), O212, (by rw [restB_no h41]; exact O213), z211, by omega, by omega⟩)
          · refine wp_cond_true ((n203.at_).trans (congrArg Value.bool (c214))) ?_
            have h41 : (dsX X) i c = true := c214
            refine wp_region_lit ?_
            have e225 := n203.ne rfl (n202.ne rfl (n201.ne rfl (n173.ne rfl (n172.ne rfl (n171.ne rfl (n169.ne rfl (n165.ne rfl (n164.ne rfl s4I152))))))))
            refine sv n203.ok rfl (wn _ rfl) rfl (o_fa (z := 1) e225 Tryz.underlying33 rfl (by kernel_rfl) rfl rfl) (fun an226 n226 => ?_)
            refine sv n226.ok rfl (wn _ rfl) rfl (o_ld n226.at_ (Tryz.isAgg31 _) (B209.cell _ rfl)) (fun an227 n227 => ?_)
            have e228 := n227.ne rfl (n226.ne rfl (n203.ne rfl (n202.ne rfl (n201.ne rfl n173.at_))))
            refine sv n227.ok rfl (wn _ rfl) rfl (o_ldR e228 B210 Tryz.underlying58 rfl (by kernel_rfl)) (fun an229 n229 => ?_)
            obtain ⟨i230, i230a, i230b, i230c⟩ := info3_of (show (Tryz.prog.info? 58).map (fun i => (i.zero, i.size)) = some (some (.agg #[.int .i64 0, .int .i64 0]), 2) by kernel_rfl)
            refine sals (cs := #[.int .i64 (i : Int), .int .i64 (c : Int)]) n229.ok rfl (wn _ rfl) rfl (o_bs (vs := [(0, .agg #[.int .i64 (i : Int), .int .i64 (c : Int)])]) (by simp [n229.at_, ev_const]) Tryz.underlying31 i230a i230b (by rw [i230c]; rfl) (by rw [i230c]; rfl) (by rw [i230c]; kernel_rfl)) (fun an231 w233 b232 W234 n231 => ?_)
            have l235 : b3 < b232 := by rw [W234.eq]; exact B207.lt
            have l236 : b9 < b232 := by rw [W234.eq]; exact B208.lt
            have l237 : b19 < b232 := by rw [W234.eq]; exact B209.lt
            have l238 : b174 < b232 := by rw [W234.eq]; exact B210.lt
            have l239 : w.heap.size ≤ b232 := by rw [W234.eq]; exact G206.size
            have l240 : ∀ k, Value.ownBlock (.slice a124 (i + 1) c125) = some k → k < b232 := fun k e => by rw [W234.eq]; exact ow_in O212 k e
            have l241 : ∀ k, Value.ownBlock (.slice ma ((restTo (dsX X) i ++ restB (dsX X) i c).length) mc) = some k → k < b232 := fun k e => by rw [W234.eq]; exact ow_in O213 k e
            have G242 := G206.trans W234.gr
            have B243 := B207.gr W234.gr
            have B244 := B208.gr W234.gr
            have B245 := B209.gr W234.gr
            have B246 := B210.gr W234.gr
            have z247 := Nat.le_trans z211 W234.gr.size
            have O248 := ow_gr O212 W234.gr
            have O249 := ow_gr O213 W234.gr
            have hML : (restTo (dsX X) i ++ restB (dsX X) i c).length ≤ 6100 := rest_len (dsX X) i c (by omega) (by omega)
            have hap := restB_app (dsX X) i c (by omega) h41
            obtain ⟨i250, i250a, i250b, i250c, i250d⟩ := info_of (show (Tryz.prog.info? 58).map (fun i => (i.zero, i.size, i.bytes)) = some (some (.agg #[.int .i64 0, .int .i64 0]), 2, 16) by kernel_rfl)
            refine s_app (base := h1) (n := (restTo (dsX X) i ++ restB (dsX X) i c).length) (xs := flat (pairs (restTo (dsX X) i ++ restB (dsX X) i c))) (m := 1) (news := [.int .i64 (i : Int), .int .i64 (c : Int)]) n231.ok (wn _ rfl) rfl Tryz.underlying31 i250a i250b i250c i250d rfl (by omega) (n231.ne rfl (n229.ne rfl n227.at_)) O249 n231.at_ rfl (fun j u hj => bk_cells W234.bk j u hj) (fun u hu => by simp at hu; rcases hu with rfl | rfl <;> rfl) (by simp only [maxLen]; omega) (by omega) z247 (fun an251 w252 v253 O256 gg257 n251 => ?_)
            obtain ⟨a254, c255, rfl, c255l⟩ := ow_form O256
            have G258 := Gr.grown G242 gg257 (fun k e => Nat.le_trans l35 (ow_lt O249 k e))
            have B259 := B243.grown gg257 (ow_lt O249) l32
            have B260 := B244.grown gg257 (ow_lt O249) l33
            have B261 := B245.grown gg257 (ow_lt O249) l34
            have B262 := B246.grown_ne gg257 l182
            have B263 := W234.bk.grown_ne gg257 l241
            have z264 := Nat.le_trans z247 gg257.size
            have O265 := ow_grown O248 O249 gg257 rfl
            have O266 : w252.ownsRow h1 58 2 (.slice a254 ((restTo (dsX X) i ++ restB (dsX X) i c).length + 1) c255) ((restTo (dsX X) i ++ restB (dsX X) i c).length + 1) (flat (pairs (restTo (dsX X) i ++ restB (dsX X) i c)) ++ [.int .i64 (i : Int), .int .i64 (c : Int)]) := O256
            have e267 := n251.ne rfl (n231.ne rfl (n229.ne rfl (n227.ne rfl (n226.ne rfl e225))))
            refine sv n251.ok rfl (wn _ rfl) rfl (o_fa (z := 1) e267 Tryz.underlying33 rfl (by kernel_rfl) rfl rfl) (fun an268 n268 => ?_)
            refine ssC rfl (wn _ rfl) (o_st n268.at_ (n268.ne rfl n251.at_) B261 rfl (by kernel_rfl) rfl) B261 (fun w269 u270 u270b => ?_)
            have G271 : Gr w w269 := Below.upd G258 l24 u270
            have B272 := B259.upd u270 (Nat.ne_of_lt l22)
            have B273 := B260.upd u270 (Nat.ne_of_lt l23)
            have B274 := B262.upd u270 (Nat.ne_of_gt l179)
            have B275 := B263.upd u270 (Nat.ne_of_gt l237)
            have z276 : h1 ≤ w269.heap.size := by rw [u270.size]; exact z264
            have O277 := ow_upd O265 u270 l34
            have O278 := ow_upd O266 u270 l34
            refine wpList_nil ?_
            refine ib_n ?_
            refine th_n (hK167 _ _ ?_)
            refine wp_region_lit ?_
            have e279 := n268.ne rfl (n251.ne rfl (n231.ne rfl (n229.ne rfl (n227.ne rfl (n226.ne rfl (n203.ne rfl (n202.ne rfl (n201.ne rfl (n173.ne rfl (n172.ne rfl (n171.ne rfl e170)))))))))))
            refine sv n268.ok rfl (wn _ rfl) rfl (o_mv e279) (fun an280 n280 => ?_)
            refine sv n280.ok rfl (wn _ rfl) rfl (o_add (r := ((c + 1 : Nat) : Int)) n280.at_ ev_const (by omega) (by omega)) (fun an281 n281 => ?_)
            refine sv n281.ok rfl (wn _ rfl) rfl (o_as n281.at_) (fun an282 n282 => ?_)
            refine wpList_nil ?_
            have e283 := n282.ne rfl (n281.ne rfl (n280.ne rfl (n268.ne rfl (n251.ne rfl (n231.ne rfl (n229.ne rfl (n227.ne rfl (n226.ne rfl (n203.ne rfl (n202.ne rfl (n201.ne rfl e200)))))))))))
            have e284 := n282.ne rfl (n281.ne rfl (n280.ne rfl (n268.ne rfl (n251.ne rfl (n231.ne rfl (n229.ne rfl (n227.ne rfl (n226.ne rfl (n203.ne rfl (n202.ne rfl (n201.ne rfl (n173.ne rfl (n172.ne rfl (n171.ne rfl (n169.ne rfl (n165.ne rfl (n164.ne rfl s2I152)))))))))))))))))
            have e285 := n282.ne rfl (n281.ne rfl (n280.ne rfl (n268.ne rfl (n251.ne rfl (n231.ne rfl (n229.ne rfl (n227.ne rfl (n226.ne rfl (n203.ne rfl (n202.ne rfl (n201.ne rfl (n173.ne rfl (n172.ne rfl (n171.ne rfl (n169.ne rfl (n165.ne rfl (n164.ne rfl s3I152)))))))))))))))))
            have e286 := n282.ne rfl (n281.ne rfl (n280.ne rfl (n268.ne rfl e267)))
            have e287 := n282.ne rfl (n281.ne rfl (n280.ne rfl (n268.ne rfl (n251.ne rfl (n231.ne rfl (n229.ne rfl (n227.ne rfl (n226.ne rfl (n203.ne rfl (n202.ne rfl (n201.ne rfl (n173.ne rfl (n172.ne rfl (n171.ne rfl (n169.ne rfl (n165.ne rfl (n164.ne rfl s5I152)))))))))))))))))
            have e288 := n282.ne rfl (n281.ne rfl (n280.ne rfl (n268.ne rfl (n251.ne rfl (n231.ne rfl (n229.ne rfl (n227.ne rfl (n226.ne rfl (n203.ne rfl (n202.ne rfl (n201.ne rfl (n173.ne rfl (n172.ne rfl (n171.ne rfl (n169.ne rfl (n165.ne rfl (n164.ne rfl s9I152)))))))))))))))))
            exact th_n (hKI152 _ _ _ (by omega) ⟨c + 1, a254, c255, rfl, n282.ok, G271, e283, e284, e285, e286, e287, n282.at_, e288, B272, B273, (by rw [hap.1]; exact u270b), O277, (by rw [hap.1, hap.2, ← flatD_snoc]; exact O278), z276, by omega, by omega⟩)
        · refine wp_cond_false ((n165.at_).trans (congrArg Value.bool (decide_eq_false c166))) ?_
          refine wp_exit ?_
          refine th_x ?_
          refine th_x ?_
          refine ib_x ?_
          refine ib_n ?_
          refine th_n (hK49 _ _ ?_)
          refine wp_region_lit ?_
          refine sv n165.ok rfl (wn _ rfl) rfl (o_add (r := ((i + 1 : Nat) : Int)) (n165.ne rfl (n164.ne rfl s9I152)) ev_const (by omega) (by omega)) (fun an289 n289 => ?_)
          refine sv n289.ok rfl (wn _ rfl) rfl (o_mv n289.at_) (fun an290 n290 => ?_)
          refine wpList_nil ?_
          have hre : restTo (dsX X) i ++ restB (dsX X) i c = restTo (dsX X) (i + 1) := rest_end (dsX X) i c hc1I152 (by omega) hR
          have e291 := n290.ne rfl (n289.ne rfl (n165.ne rfl (n164.ne rfl s1I152)))
          have e292 := n290.ne rfl (n289.ne rfl (n165.ne rfl (n164.ne rfl s2I152)))
          have e293 := n290.ne rfl (n289.ne rfl (n165.ne rfl (n164.ne rfl s3I152)))
          have e294 := n290.ne rfl (n289.ne rfl (n165.ne rfl (n164.ne rfl s4I152)))
          exact th_n (hKI39 _ _ _ (by omega) ⟨i + 1, a124, c125, ma, mc, rfl, n290.ok, GI152, e291, e292, e293, e294, n290.at_, kb3I152, kb9I152, (by rw [← hre]; exact kb19I152), oVI152, (by rw [← hre]; exact oMI152), zh1I152, by omega⟩)
      · refine wp_cond_true ((n94.at_).trans (congrArg Value.bool (c95))) ?_
        have h21 : (dsX X) i (n + 1) = true := c95
        refine wp_skip ?_
        refine th_n (hK65 _ _ ?_)
        refine wp_block ?_
        refine wp_region_lit ?_
        have e295 := n94.ne rfl (n83.ne rfl (n81.ne rfl (n80.ne rfl (n78.ne rfl e77))))
        refine sv n94.ok rfl (wn _ rfl) rfl (o_mv e295) (fun an296 n296 => ?_)
        refine sv n296.ok rfl (wn _ rfl) rfl (o_add (r := ((n + 1 : Nat) : Int)) n296.at_ ev_const (by omega) (by omega)) (fun an297 n297 => ?_)
        refine sv n297.ok rfl (wn _ rfl) rfl (o_as n297.at_) (fun an298 n298 => ?_)
        refine wpList_nil ?_
        refine ib_n ?_
        have e299 := n298.ne rfl (n297.ne rfl (n296.ne rfl (n94.ne rfl (n83.ne rfl (n81.ne rfl (n80.ne rfl (n78.ne rfl (n76.ne rfl (n74.ne rfl e73)))))))))
        have e300 := n298.ne rfl (n297.ne rfl (n296.ne rfl (n94.ne rfl (n83.ne rfl (n81.ne rfl (n80.ne rfl (n78.ne rfl (n76.ne rfl (n74.ne rfl (n69.ne rfl (n68.ne rfl (n67.ne rfl s2I56))))))))))))
        have e301 := n298.ne rfl (n297.ne rfl (n296.ne rfl (n94.ne rfl (n83.ne rfl (n81.ne rfl (n80.ne rfl (n78.ne rfl (n76.ne rfl (n74.ne rfl (n69.ne rfl (n68.ne rfl (n67.ne rfl s3I56))))))))))))
        have e302 := n298.ne rfl (n297.ne rfl (n296.ne rfl (n94.ne rfl (n83.ne rfl (n81.ne rfl (n80.ne rfl (n78.ne rfl (n76.ne rfl (n74.ne rfl (n69.ne rfl (n68.ne rfl (n67.ne rfl s4I56))))))))))))
        have e303 := n298.ne rfl (n297.ne rfl (n296.ne rfl (n94.ne rfl (n83.ne rfl (n81.ne rfl (n80.ne rfl (n78.ne rfl (n76.ne rfl e75))))))))
        have e304 := n298.ne rfl (n297.ne rfl (n296.ne rfl (n94.ne rfl (n83.ne rfl (n81.ne rfl (n80.ne rfl (n78.ne rfl (n76.ne rfl (n74.ne rfl (n69.ne rfl (n68.ne rfl (n67.ne rfl s9I56))))))))))))
        exact th_n (hKI56 _ _ _ (by omega) ⟨n + 1, rfl, n298.ok, G86, e299, e300, e301, e302, e303, n298.at_, e304, B87, B88, B89, O91, O92, z90, by omega, all_snoc hallI56 h21⟩)
    · have e305 := (n69.at_).trans (congrArg Value.bool (decide_eq_false c70))
      have e306 := ((n69.ne rfl n68.at_)).trans (congrArg Value.bool (decide_eq_false c70))
      have hR : run (dsX X) i = n := run_is hallI56 (.inl (by omega)) hnI56
      refine sn n69.ok rfl (wgF rfl (yl 2 false rfl e305) rfl) rfl (fun an307 n307 => ?_)
      refine sn n307.ok rfl (wgF rfl (yl 2 false rfl (n307.ne rfl e305)) rfl) rfl (fun an308 n308 => ?_)
      refine sn n308.ok rfl (wgF rfl (yl 2 false rfl (n308.ne rfl (n307.ne rfl e305))) rfl) rfl (fun an309 n309 => ?_)
      have e310 := n309.ne rfl (n308.ne rfl (n307.ne rfl e305))
      refine sn n309.ok rfl (wgF rfl (yl 2 false rfl e310) rfl) rfl (fun an311 n311 => ?_)
      refine sn n311.ok rfl (wgF rfl (yl 2 false rfl (n311.ne rfl e310)) rfl) rfl (fun an312 n312 => ?_)
      refine sn n312.ok rfl (wgF rfl (yl 2 false rfl (n312.ne rfl (n311.ne rfl e310))) rfl) rfl (fun an313 n313 => ?_)
      have e314 := n313.ne rfl (n312.ne rfl (n311.ne rfl e310))
      refine sv n313.ok rfl (wn _ rfl) rfl (o_pkF e314 ev_const) (fun an315 n315 => ?_)
      refine wpList_nil ?_
      refine th_n (hK66 _ _ ?_)
      refine wp_cond_false (n315.at_) ?_
      refine wp_exit ?_
      refine th_x ?_
      refine th_x ?_
      refine ib_x ?_
      refine th_n (hK55 _ _ ?_)
      refine wp_seq_k (fun K316 hK316 => ?_)
      refine wp_region_lit ?_
      have e317 := n315.ne rfl (n313.ne rfl (n312.ne rfl (n311.ne rfl (n309.ne rfl (n308.ne rfl (n307.ne rfl (n69.ne rfl (n68.ne rfl (n67.ne rfl s4I56)))))))))
      refine sv n315.ok rfl (wn _ rfl) rfl (o_fa (z := 1) e317 Tryz.underlying33 rfl (by kernel_rfl) rfl rfl) (fun an318 n318 => ?_)
      refine sv n318.ok rfl (wn _ rfl) rfl (o_ld n318.at_ (Tryz.isAgg30 _) (kb19I56.cell _ rfl)) (fun an319 n319 => ?_)
      have e320 := n319.ne rfl (n318.ne rfl (n315.ne rfl (n313.ne rfl (n312.ne rfl (n311.ne rfl (n309.ne rfl (n308.ne rfl (n307.ne rfl (n69.ne rfl (n68.ne rfl (n67.ne rfl s6I56)))))))))))
      refine sv n319.ok rfl (wn _ rfl) rfl (o_mv e320) (fun an321 n321 => ?_)
      obtain ⟨i322, i322a, i322b, i322c⟩ := info3_of (show (Tryz.prog.info? 3).map (fun i => (i.zero, i.size)) = some (some (.int .i64 0), 1) by kernel_rfl)
      refine sals (cs := #[.int .i64 (n : Int)]) n321.ok rfl (wn _ rfl) rfl (o_bs (vs := [(0, .int .i64 (n : Int))]) (by simp [n321.at_, ev_const]) Tryz.underlying30 i322a i322b (by rw [i322c]; rfl) (by rw [i322c]; rfl) (by rw [i322c]; kernel_rfl)) (fun an323 w325 b324 W326 n323 => ?_)
      have l327 : b3 < b324 := by rw [W326.eq]; exact kb3I56.lt
      have l328 : b9 < b324 := by rw [W326.eq]; exact kb9I56.lt
      have l329 : b19 < b324 := by rw [W326.eq]; exact kb19I56.lt
      have l330 : w.heap.size ≤ b324 := by rw [W326.eq]; exact GI56.size
      have l331 : ∀ k, Value.ownBlock (.slice va i vc) = some k → k < b324 := fun k e => by rw [W326.eq]; exact ow_in oVI56 k e
      have l332 : ∀ k, Value.ownBlock (.slice ma ((restTo (dsX X) (i)).length) mc) = some k → k < b324 := fun k e => by rw [W326.eq]; exact ow_in oMI56 k e
      have G333 := GI56.trans W326.gr
      have B334 := kb3I56.gr W326.gr
      have B335 := kb9I56.gr W326.gr
      have B336 := kb19I56.gr W326.gr
      have z337 := Nat.le_trans zh1I56 W326.gr.size
      have O338 := ow_gr oVI56 W326.gr
      have O339 := ow_gr oMI56 W326.gr
      obtain ⟨i340, i340a, i340b, i340c, i340d⟩ := info_of (show (Tryz.prog.info? 3).map (fun i => (i.zero, i.size, i.bytes)) = some (some (.int .i64 0), 1, 8) by kernel_rfl)
      refine s_app (base := h1) (n := i) (xs := flatI (runsTo (dsX X) i)) (m := 1) (news := [.int .i64 (n : Int)]) n323.ok (wn _ rfl) rfl Tryz.underlying30 i340a i340b i340c i340d rfl (by omega) (n323.ne rfl (n321.ne rfl n319.at_)) O338 n323.at_ rfl (fun j u hj => bk_cells W326.bk j u hj) (fun u hu => by simp at hu; subst hu; rfl) (by simp only [maxLen]; omega) (by omega) z337 (fun an341 w342 v343 O346 gg347 n341 => ?_)
      obtain ⟨a344, c345, rfl, c345l⟩ := ow_form O346
      have G348 := Gr.grown G333 gg347 (fun k e => Nat.le_trans l35 (ow_lt O338 k e))
      have B349 := B334.grown gg347 (ow_lt O338) l32
      have B350 := B335.grown gg347 (ow_lt O338) l33
      have B351 := B336.grown gg347 (ow_lt O338) l34
      have B352 := W326.bk.grown_ne gg347 l331
      have z353 := Nat.le_trans z337 gg347.size
      have O354 := ow_grown O339 O338 gg347 rfl
      have O355 : w342.ownsRow h1 3 1 (.slice a344 (i + 1) c345) (i + 1) (flatI (runsTo (dsX X) (i + 1))) := by rw [runsTo_succ, hR, ← flatI_snoc]; exact O346
      have e356 := n341.ne rfl (n323.ne rfl (n321.ne rfl (n319.ne rfl (n318.ne rfl e317))))
      refine sv n341.ok rfl (wn _ rfl) rfl (o_fa (z := 1) e356 Tryz.underlying33 rfl (by kernel_rfl) rfl rfl) (fun an357 n357 => ?_)
      refine ssC rfl (wn _ rfl) (o_st n357.at_ (n357.ne rfl n341.at_) B351 rfl (by kernel_rfl) rfl) B351 (fun w358 u359 u359b => ?_)
      have G360 : Gr w w358 := Below.upd G348 l24 u359
      have B361 := B349.upd u359 (Nat.ne_of_lt l22)
      have B362 := B350.upd u359 (Nat.ne_of_lt l23)
      have B363 := B352.upd u359 (Nat.ne_of_gt l329)
      have z364 : h1 ≤ w358.heap.size := by rw [u359.size]; exact z353
      have O365 := ow_upd O355 u359 l34
      have O366 := ow_upd O354 u359 l34
      refine wpList_nil ?_
      refine th_n (hK316 _ _ ?_)
      refine wp_seq_k (fun K367 hK367 => ?_)
      refine wp_region_lit ?_
      have e368 := n357.ne rfl (n341.ne rfl (n323.ne rfl (n321.ne rfl e320)))
      refine sv n357.ok rfl (wn _ rfl) rfl (o_mv e368) (fun an369 n369 => ?_)
      refine sv n369.ok rfl (wn _ rfl) rfl (o_add (r := ((n + 2 : Nat) : Int)) n369.at_ ev_const (by omega) (by omega)) (fun an370 n370 => ?_)
      refine sv n370.ok rfl (wn _ rfl) rfl (o_as n370.at_) (fun an371 n371 => ?_)
      refine wpList_nil ?_
      refine th_n (hK367 _ _ ?_)
      refine wp_block ?_
      have hst : restTo (dsX X) i ++ restB (dsX X) i (n + 2) = restTo (dsX X) i := by rw [restB_start (dsX X) i (n + 2) (by omega), List.append_nil]
      have e373 := n371.ne rfl (n370.ne rfl (n369.ne rfl (n357.ne rfl (n341.ne rfl (n323.ne rfl (n321.ne rfl (n319.ne rfl (n318.ne rfl (n315.ne rfl (n313.ne rfl (n312.ne rfl (n311.ne rfl (n309.ne rfl (n308.ne rfl (n307.ne rfl (n69.ne rfl (n68.ne rfl (n67.ne rfl s1I56))))))))))))))))))
      have e374 := n371.ne rfl (n370.ne rfl (n369.ne rfl (n357.ne rfl (n341.ne rfl (n323.ne rfl (n321.ne rfl (n319.ne rfl (n318.ne rfl (n315.ne rfl (n313.ne rfl (n312.ne rfl (n311.ne rfl (n309.ne rfl (n308.ne rfl (n307.ne rfl (n69.ne rfl (n68.ne rfl (n67.ne rfl s2I56))))))))))))))))))
      have e375 := n371.ne rfl (n370.ne rfl (n369.ne rfl (n357.ne rfl (n341.ne rfl (n323.ne rfl (n321.ne rfl (n319.ne rfl (n318.ne rfl (n315.ne rfl (n313.ne rfl (n312.ne rfl (n311.ne rfl (n309.ne rfl (n308.ne rfl (n307.ne rfl (n69.ne rfl (n68.ne rfl (n67.ne rfl s3I56))))))))))))))))))
      have e376 := n371.ne rfl (n370.ne rfl (n369.ne rfl (n357.ne rfl e356)))
      have e377 := n371.ne rfl (n370.ne rfl (n369.ne rfl (n357.ne rfl (n341.ne rfl (n323.ne rfl (n321.ne rfl (n319.ne rfl (n318.ne rfl (n315.ne rfl (n313.ne rfl (n312.ne rfl (n311.ne rfl (n309.ne rfl (n308.ne rfl (n307.ne rfl (n69.ne rfl (n68.ne rfl (n67.ne rfl s5I56))))))))))))))))))
      have e378 := n371.ne rfl (n370.ne rfl (n369.ne rfl (n357.ne rfl (n341.ne rfl (n323.ne rfl (n321.ne rfl (n319.ne rfl (n318.ne rfl (n315.ne rfl (n313.ne rfl (n312.ne rfl (n311.ne rfl (n309.ne rfl (n308.ne rfl (n307.ne rfl (n69.ne rfl (n68.ne rfl (n67.ne rfl s9I56))))))))))))))))))
      refine lp (fun (nL : Nat) (aL : Act) (wL : World) => ∃ c : Nat, ∃ ma : Option Addr, ∃ mc : Nat, nL = 1002 - c ∧ Ok 77 aL ∧ Gr w wL ∧ (aL.eval (.tmp 1) = .pointer (some ⟨b3, 0, none⟩)) ∧ (aL.eval (.tmp 2) = .pointer (some ⟨b9, 0, none⟩)) ∧ (aL.eval (.tmp 3) = .bool false) ∧ (aL.eval (.tmp 4) = .pointer (some ⟨b19, 0, none⟩)) ∧ (aL.eval (.tmp 5) = .int .i64 (i : Int)) ∧ (aL.eval (.tmp 7) = .int .i64 (c : Int)) ∧ (aL.eval (.tmp 9) = .int .i64 (i : Int)) ∧ (Bk wL b3 (wArr X) 49) ∧ (Bk wL b9 #[.slice none 0 0, .slice none 0 0] 33) ∧ (Bk wL b19 #[.slice a344 (i + 1) c345, .slice ma ((restTo (dsX X) i ++ restB (dsX X) i c).length) mc] 33) ∧ (World.ownsRow wL h1 3 1 (.slice a344 (i + 1) c345) (i + 1) (flatI (runsTo (dsX X) (i + 1)))) ∧ (World.ownsRow wL h1 58 2 (.slice ma ((restTo (dsX X) i ++ restB (dsX X) i c).length) mc) ((restTo (dsX X) i ++ restB (dsX X) i c).length) (flat (pairs (restTo (dsX X) i ++ restB (dsX X) i c)))) ∧ (h1 ≤ wL.heap.size) ∧ (n + 2 ≤ c) ∧ (c ≤ 1001 ∨ c = n + 2)) _ ⟨n + 2, ma, mc, rfl, n371.ok, G360, e373, e374, e375, e376, e377, n371.at_, e378, B361, B362, (by rw [hst]; exact u359b), O365, (by rw [hst]; exact O366), z364, by omega, by omega⟩ ?_
      rintro m379 aI372 w381 ⟨c, ma, mc, hmI372, okI372, GI372, s1I372, s2I372, s3I372, s4I372, s5I372, s7I372, s9I372, kb3I372, kb9I372, kb19I372, oVI372, oMI372, zh1I372, hc1I372, hc2I372⟩ KI372 hKI372
      refine wp_seq_k (fun K382 hK382 => ?_)
      refine wp_seq_k (fun K383 hK383 => ?_)
      refine wp_region_lit ?_
      refine sv okI372 rfl (wn _ rfl) rfl (o_mv s7I372) (fun an384 n384 => ?_)
      refine sv n384.ok rfl (wn _ rfl) rfl (o_leI n384.at_ ev_const) (fun an385 n385 => ?_)
      refine wpList_nil ?_
      refine th_n (hK383 _ _ ?_)
      by_cases c386 : (c : Int) ≤ 1000
      · refine wp_cond_true ((n385.at_).trans (congrArg Value.bool (decide_eq_true c386))) ?_
        refine wp_skip ?_
        refine th_n (hK382 _ _ ?_)
        refine wp_seq_k (fun K387 hK387 => ?_)
        refine wp_block ?_
        refine wp_seq_k (fun K388 hK388 => ?_)
        refine wp_region_lit ?_
        refine sv n385.ok rfl (wn _ rfl) rfl (o_mv (n385.ne rfl (n384.ne rfl s5I372))) (fun an389 n389 => ?_)
        have e390 := n389.ne rfl (n385.ne rfl (n384.ne rfl s7I372))
        refine sv n389.ok rfl (wn _ rfl) rfl (o_mv e390) (fun an391 n391 => ?_)
        refine sv n391.ok rfl (wn _ rfl) rfl (o_bd (cells := #[.int .i64 (i : Int), .int .i64 (c : Int)]) (vs := [(0, .int .i64 (i : Int)), (1, .int .i64 (c : Int))]) (by simp [(n391.ne rfl n389.at_), n391.at_, ev_const]) (by kernel_rfl)) (fun an392 n392 => ?_)
        refine sal (cs := #[.int .i64 0, .int .i64 0]) n392.ok rfl (wn _ rfl) rfl (o_al (z := .agg #[.int .i64 0, .int .i64 0]) (by kernel_rfl)) (fun an393 w395 b394 W396 n393 => ?_)
        have l397 : b3 < b394 := by rw [W396.eq]; exact kb3I372.lt
        have l398 : b9 < b394 := by rw [W396.eq]; exact kb9I372.lt
        have l399 : b19 < b394 := by rw [W396.eq]; exact kb19I372.lt
        have l400 : w.heap.size ≤ b394 := by rw [W396.eq]; exact GI372.size
        have l401 : ∀ k, Value.ownBlock (.slice a344 (i + 1) c345) = some k → k < b394 := fun k e => by rw [W396.eq]; exact ow_in oVI372 k e
        have l402 : ∀ k, Value.ownBlock (.slice ma ((restTo (dsX X) i ++ restB (dsX X) i c).length) mc) = some k → k < b394 := fun k e => by rw [W396.eq]; exact ow_in oMI372 k e
        have G403 := GI372.trans W396.gr
        have B404 := kb3I372.gr W396.gr
        have B405 := kb9I372.gr W396.gr
        have B406 := kb19I372.gr W396.gr
        have z407 := Nat.le_trans zh1I372 W396.gr.size
        have O408 := ow_gr oVI372 W396.gr
        have O409 := ow_gr oMI372 W396.gr
        refine ssR rfl (wn _ rfl) (o_stR n393.at_ (n393.ne rfl n392.at_) W396.bk (by kernel_rfl) rfl (by simp [Value.oneCell'])) W396.bk (fun w410 u411 u411b => ?_)
        have G412 : Gr w w410 := Below.upd G403 l400 u411
        have B413 := B404.upd u411 (Nat.ne_of_lt l397)
        have B414 := B405.upd u411 (Nat.ne_of_lt l398)
        have B415 := B406.upd u411 (Nat.ne_of_lt l399)
        have z416 : h1 ≤ w410.heap.size := by rw [u411.size]; exact z407
        have O417 := ow_upd_ne O408 u411 l401
        have O418 := ow_upd_ne O409 u411 l402
        refine wpList_nil ?_
        refine th_n (hK388 _ _ ?_)
        refine wp_seq_k (fun K419 hK419 => ?_)
        refine wp_region_lit ?_
        have e420 := n393.ne rfl (n392.ne rfl (n391.ne rfl (n389.ne rfl (n385.ne rfl (n384.ne rfl s1I372)))))
        refine sv n393.ok rfl (wn _ rfl) rfl (o_ldR e420 B413 Tryz.underlying49 rfl (dots_sz X)) (fun an421 n421 => ?_)
        refine sv n421.ok rfl (wn _ rfl) rfl (o_ldR (n421.ne rfl n393.at_) u411b Tryz.underlying58 rfl (by kernel_rfl)) (fun an422 n422 => ?_)
        refine sc n422.ok rfl (wn _ rfl) rfl (o_f2 Tryz.func106 rfl rfl rfl (n422.ne rfl n421.at_) n422.at_) (rhas_any X (i) (c) w410 hX (by omega) (by omega)) ?_
        rintro _ w424 ⟨rfl, g425⟩
        refine ⟨_, rfl, fun an423 n423 => ?_⟩
        have G426 := G412.trans g425
        have B427 := B413.gr g425
        have B428 := B414.gr g425
        have B429 := B415.gr g425
        have B430 := u411b.gr g425
        have z431 := Nat.le_trans z416 g425.size
        have O432 := ow_gr O417 g425
        have O433 := ow_gr O418 g425
        refine wpList_nil ?_
        refine th_n (hK419 _ _ ?_)
        cases c434 : (dsX X (i) (c))
        · refine wp_cond_false ((n423.at_).trans (congrArg Value.bool (c434))) ?_
          have h41 : (dsX X) i c = false := c434
          refine wp_skip ?_
          refine ib_n ?_
          refine th_n (hK387 _ _ ?_)
          refine wp_region_lit ?_
          have e435 := n423.ne rfl (n422.ne rfl (n421.ne rfl (n393.ne rfl (n392.ne rfl (n391.ne rfl e390)))))
          refine sv n423.ok rfl (wn _ rfl) rfl (o_mv e435) (fun an436 n436 => ?_)
          refine sv n436.ok rfl (wn _ rfl) rfl (o_add (r := ((c + 1 : Nat) : Int)) n436.at_ ev_const (by omega) (by omega)) (fun an437 n437 => ?_)
          refine sv n437.ok rfl (wn _ rfl) rfl (o_as n437.at_) (fun an438 n438 => ?_)
          refine wpList_nil ?_
          have e439 := n438.ne rfl (n437.ne rfl (n436.ne rfl (n423.ne rfl (n422.ne rfl (n421.ne rfl e420)))))
          have e440 := n438.ne rfl (n437.ne rfl (n436.ne rfl (n423.ne rfl (n422.ne rfl (n421.ne rfl (n393.ne rfl (n392.ne rfl (n391.ne rfl (n389.ne rfl (n385.ne rfl (n384.ne rfl s2I372)))))))))))
          have e441 := n438.ne rfl (n437.ne rfl (n436.ne rfl (n423.ne rfl (n422.ne rfl (n421.ne rfl (n393.ne rfl (n392.ne rfl (n391.ne rfl (n389.ne rfl (n385.ne rfl (n384.ne rfl s3I372)))))))))))
          have e442 := n438.ne rfl (n437.ne rfl (n436.ne rfl (n423.ne rfl (n422.ne rfl (n421.ne rfl (n393.ne rfl (n392.ne rfl (n391.ne rfl (n389.ne rfl (n385.ne rfl (n384.ne rfl s4I372)))))))))))
          have e443 := n438.ne rfl (n437.ne rfl (n436.ne rfl (n423.ne rfl (n422.ne rfl (n421.ne rfl (n393.ne rfl (n392.ne rfl (n391.ne rfl (n389.ne rfl (n385.ne rfl (n384.ne rfl s5I372)))))))))))
          have e444 := n438.ne rfl (n437.ne rfl (n436.ne rfl (n423.ne rfl (n422.ne rfl (n421.ne rfl (n393.ne rfl (n392.ne rfl (n391.ne rfl (n389.ne rfl (n385.ne rfl (n384.ne rfl s9I372)))))))))))
          exact th_n (hKI372 _ _ _ (by omega) ⟨c + 1, ma, mc, rfl, n438.ok, G426, e439, e440, e441, e442, e443, n438.at_, e444, B427, B428, (by rw [restB_no h41]; exact B429), O432, (by rw [restB_no h41]; exact O433), z431, by omega, by omega⟩)
        · refine wp_cond_true ((n423.at_).trans (congrArg Value.bool (c434))) ?_
          have h41 : (dsX X) i c = true := c434
          refine wp_region_lit ?_
          have e445 := n423.ne rfl (n422.ne rfl (n421.ne rfl (n393.ne rfl (n392.ne rfl (n391.ne rfl (n389.ne rfl (n385.ne rfl (n384.ne rfl s4I372))))))))
          refine sv n423.ok rfl (wn _ rfl) rfl (o_fa (z := 1) e445 Tryz.underlying33 rfl (by kernel_rfl) rfl rfl) (fun an446 n446 => ?_)
          refine sv n446.ok rfl (wn _ rfl) rfl (o_ld n446.at_ (Tryz.isAgg31 _) (B429.cell _ rfl)) (fun an447 n447 => ?_)
          have e448 := n447.ne rfl (n446.ne rfl (n423.ne rfl (n422.ne rfl (n421.ne rfl n393.at_))))
          refine sv n447.ok rfl (wn _ rfl) rfl (o_ldR e448 B430 Tryz.underlying58 rfl (by kernel_rfl)) (fun an449 n449 => ?_)
          obtain ⟨i450, i450a, i450b, i450c⟩ := info3_of (show (Tryz.prog.info? 58).map (fun i => (i.zero, i.size)) = some (some (.agg #[.int .i64 0, .int .i64 0]), 2) by kernel_rfl)
          refine sals (cs := #[.int .i64 (i : Int), .int .i64 (c : Int)]) n449.ok rfl (wn _ rfl) rfl (o_bs (vs := [(0, .agg #[.int .i64 (i : Int), .int .i64 (c : Int)])]) (by simp [n449.at_, ev_const]) Tryz.underlying31 i450a i450b (by rw [i450c]; rfl) (by rw [i450c]; rfl) (by rw [i450c]; kernel_rfl)) (fun an451 w453 b452 W454 n451 => ?_)
          have l455 : b3 < b452 := by rw [W454.eq]; exact B427.lt
          have l456 : b9 < b452 := by rw [W454.eq]; exact B428.lt
          have l457 : b19 < b452 := by rw [W454.eq]; exact B429.lt
          have l458 : b394 < b452 := by rw [W454.eq]; exact B430.lt
          have l459 : w.heap.size ≤ b452 := by rw [W454.eq]; exact G426.size
          have l460 : ∀ k, Value.ownBlock (.slice a344 (i + 1) c345) = some k → k < b452 := fun k e => by rw [W454.eq]; exact ow_in O432 k e
          have l461 : ∀ k, Value.ownBlock (.slice ma ((restTo (dsX X) i ++ restB (dsX X) i c).length) mc) = some k → k < b452 := fun k e => by rw [W454.eq]; exact ow_in O433 k e
          have G462 := G426.trans W454.gr
          have B463 := B427.gr W454.gr
          have B464 := B428.gr W454.gr
          have B465 := B429.gr W454.gr
          have B466 := B430.gr W454.gr
          have z467 := Nat.le_trans z431 W454.gr.size
          have O468 := ow_gr O432 W454.gr
          have O469 := ow_gr O433 W454.gr
          have hML : (restTo (dsX X) i ++ restB (dsX X) i c).length ≤ 6100 := rest_len (dsX X) i c (by omega) (by omega)
          have hap := restB_app (dsX X) i c (by omega) h41
          obtain ⟨i470, i470a, i470b, i470c, i470d⟩ := info_of (show (Tryz.prog.info? 58).map (fun i => (i.zero, i.size, i.bytes)) = some (some (.agg #[.int .i64 0, .int .i64 0]), 2, 16) by kernel_rfl)
          refine s_app (base := h1) (n := (restTo (dsX X) i ++ restB (dsX X) i c).length) (xs := flat (pairs (restTo (dsX X) i ++ restB (dsX X) i c))) (m := 1) (news := [.int .i64 (i : Int), .int .i64 (c : Int)]) n451.ok (wn _ rfl) rfl Tryz.underlying31 i470a i470b i470c i470d rfl (by omega) (n451.ne rfl (n449.ne rfl n447.at_)) O469 n451.at_ rfl (fun j u hj => bk_cells W454.bk j u hj) (fun u hu => by simp at hu; rcases hu with rfl | rfl <;> rfl) (by simp only [maxLen]; omega) (by omega) z467 (fun an471 w472 v473 O476 gg477 n471 => ?_)
          obtain ⟨a474, c475, rfl, c475l⟩ := ow_form O476
          have G478 := Gr.grown G462 gg477 (fun k e => Nat.le_trans l35 (ow_lt O469 k e))
          have B479 := B463.grown gg477 (ow_lt O469) l32
          have B480 := B464.grown gg477 (ow_lt O469) l33
          have B481 := B465.grown gg477 (ow_lt O469) l34
          have B482 := B466.grown_ne gg477 l402
          have B483 := W454.bk.grown_ne gg477 l461
          have z484 := Nat.le_trans z467 gg477.size
          have O485 := ow_grown O468 O469 gg477 rfl
          have O486 : w472.ownsRow h1 58 2 (.slice a474 ((restTo (dsX X) i ++ restB (dsX X) i c).length + 1) c475) ((restTo (dsX X) i ++ restB (dsX X) i c).length + 1) (flat (pairs (restTo (dsX X) i ++ restB (dsX X) i c)) ++ [.int .i64 (i : Int), .int .i64 (c : Int)]) := O476
          have e487 := n471.ne rfl (n451.ne rfl (n449.ne rfl (n447.ne rfl (n446.ne rfl e445))))
          refine sv n471.ok rfl (wn _ rfl) rfl (o_fa (z := 1) e487 Tryz.underlying33 rfl (by kernel_rfl) rfl rfl) (fun an488 n488 => ?_)
          refine ssC rfl (wn _ rfl) (o_st n488.at_ (n488.ne rfl n471.at_) B481 rfl (by kernel_rfl) rfl) B481 (fun w489 u490 u490b => ?_)
          have G491 : Gr w w489 := Below.upd G478 l24 u490
          have B492 := B479.upd u490 (Nat.ne_of_lt l22)
          have B493 := B480.upd u490 (Nat.ne_of_lt l23)
          have B494 := B482.upd u490 (Nat.ne_of_gt l399)
          have B495 := B483.upd u490 (Nat.ne_of_gt l457)
          have z496 : h1 ≤ w489.heap.size := by rw [u490.size]; exact z484
          have O497 := ow_upd O485 u490 l34
          have O498 := ow_upd O486 u490 l34
          refine wpList_nil ?_
          refine ib_n ?_
          refine th_n (hK387 _ _ ?_)
          refine wp_region_lit ?_
          have e499 := n488.ne rfl (n471.ne rfl (n451.ne rfl (n449.ne rfl (n447.ne rfl (n446.ne rfl (n423.ne rfl (n422.ne rfl (n421.ne rfl (n393.ne rfl (n392.ne rfl (n391.ne rfl e390)))))))))))
          refine sv n488.ok rfl (wn _ rfl) rfl (o_mv e499) (fun an500 n500 => ?_)
          refine sv n500.ok rfl (wn _ rfl) rfl (o_add (r := ((c + 1 : Nat) : Int)) n500.at_ ev_const (by omega) (by omega)) (fun an501 n501 => ?_)
          refine sv n501.ok rfl (wn _ rfl) rfl (o_as n501.at_) (fun an502 n502 => ?_)
          refine wpList_nil ?_
          have e503 := n502.ne rfl (n501.ne rfl (n500.ne rfl (n488.ne rfl (n471.ne rfl (n451.ne rfl (n449.ne rfl (n447.ne rfl (n446.ne rfl (n423.ne rfl (n422.ne rfl (n421.ne rfl e420)))))))))))
          have e504 := n502.ne rfl (n501.ne rfl (n500.ne rfl (n488.ne rfl (n471.ne rfl (n451.ne rfl (n449.ne rfl (n447.ne rfl (n446.ne rfl (n423.ne rfl (n422.ne rfl (n421.ne rfl (n393.ne rfl (n392.ne rfl (n391.ne rfl (n389.ne rfl (n385.ne rfl (n384.ne rfl s2I372)))))))))))))))))
          have e505 := n502.ne rfl (n501.ne rfl (n500.ne rfl (n488.ne rfl (n471.ne rfl (n451.ne rfl (n449.ne rfl (n447.ne rfl (n446.ne rfl (n423.ne rfl (n422.ne rfl (n421.ne rfl (n393.ne rfl (n392.ne rfl (n391.ne rfl (n389.ne rfl (n385.ne rfl (n384.ne rfl s3I372)))))))))))))))))
          have e506 := n502.ne rfl (n501.ne rfl (n500.ne rfl (n488.ne rfl e487)))
          have e507 := n502.ne rfl (n501.ne rfl (n500.ne rfl (n488.ne rfl (n471.ne rfl (n451.ne rfl (n449.ne rfl (n447.ne rfl (n446.ne rfl (n423.ne rfl (n422.ne rfl (n421.ne rfl (n393.ne rfl (n392.ne rfl (n391.ne rfl (n389.ne rfl (n385.ne rfl (n384.ne rfl s5I372)))))))))))))))))
          have e508 := n502.ne rfl (n501.ne rfl (n500.ne rfl (n488.ne rfl (n471.ne rfl (n451.ne rfl (n449.ne rfl (n447.ne rfl (n446.ne rfl (n423.ne rfl (n422.ne rfl (n421.ne rfl (n393.ne rfl (n392.ne rfl (n391.ne rfl (n389.ne rfl (n385.ne rfl (n384.ne rfl s9I372)))))))))))))))))
          exact th_n (hKI372 _ _ _ (by omega) ⟨c + 1, a474, c475, rfl, n502.ok, G491, e503, e504, e505, e506, e507, n502.at_, e508, B492, B493, (by rw [hap.1]; exact u490b), O497, (by rw [hap.1, hap.2, ← flatD_snoc]; exact O498), z496, by omega, by omega⟩)
      · refine wp_cond_false ((n385.at_).trans (congrArg Value.bool (decide_eq_false c386))) ?_
        refine wp_exit ?_
        refine th_x ?_
        refine th_x ?_
        refine ib_x ?_
        refine ib_n ?_
        refine th_n (hK49 _ _ ?_)
        refine wp_region_lit ?_
        refine sv n385.ok rfl (wn _ rfl) rfl (o_add (r := ((i + 1 : Nat) : Int)) (n385.ne rfl (n384.ne rfl s9I372)) ev_const (by omega) (by omega)) (fun an509 n509 => ?_)
        refine sv n509.ok rfl (wn _ rfl) rfl (o_mv n509.at_) (fun an510 n510 => ?_)
        refine wpList_nil ?_
        have hre : restTo (dsX X) i ++ restB (dsX X) i c = restTo (dsX X) (i + 1) := rest_end (dsX X) i c hc1I372 (by omega) hR
        have e511 := n510.ne rfl (n509.ne rfl (n385.ne rfl (n384.ne rfl s1I372)))
        have e512 := n510.ne rfl (n509.ne rfl (n385.ne rfl (n384.ne rfl s2I372)))
        have e513 := n510.ne rfl (n509.ne rfl (n385.ne rfl (n384.ne rfl s3I372)))
        have e514 := n510.ne rfl (n509.ne rfl (n385.ne rfl (n384.ne rfl s4I372)))
        exact th_n (hKI39 _ _ _ (by omega) ⟨i + 1, a344, c345, ma, mc, rfl, n510.ok, GI372, e511, e512, e513, e514, n510.at_, kb3I372, kb9I372, (by rw [← hre]; exact kb19I372), oVI372, (by rw [← hre]; exact oMI372), zh1I372, by omega⟩)
  · refine wp_cond_false ((n46.at_).trans (congrArg Value.bool (decide_eq_false c48))) ?_
    have hi5 : i = 5 := by omega
    refine wp_exit ?_
    refine th_x ?_
    refine th_x ?_
    refine ib_x ?_
    refine th_n (hK28 _ _ ?_)
    refine wp_seq_k (fun K515 hK515 => ?_)
    refine wp_block ?_
    subst hi5
    have htk : (runsTo (dsX X) 5).take 5 = runsTo (dsX X) 5 := List.take_of_length_le (by rw [runsTo_len]; omega)
    refine lp (fun (nL : Nat) (aL : Act) (wL : World) => ∃ q : Nat, ∃ ua : Option Addr, ∃ uc : Nat, nL = q ∧ Ok 77 aL ∧ Gr w wL ∧ (aL.eval (.tmp 2) = .pointer (some ⟨b9, 0, none⟩)) ∧ (aL.eval (.tmp 3) = .bool false) ∧ (aL.eval (.tmp 4) = .pointer (some ⟨b19, 0, none⟩)) ∧ (Bk wL b9 #[.slice none 0 0, .slice none 0 0] 33) ∧ (Bk wL b19 #[.slice ua q uc, .slice ma ((restTo (dsX X) (5)).length) mc] 33) ∧ (World.ownsRow wL h1 3 1 (.slice ua q uc) (q) (flatI ((runsTo (dsX X) 5).take q))) ∧ (World.ownsRow wL h1 58 2 (.slice ma ((restTo (dsX X) (5)).length) mc) ((restTo (dsX X) (5)).length) (flat (pairs (restTo (dsX X) 5)))) ∧ (h1 ≤ wL.heap.size) ∧ (q ≤ 5) ∧ (∀ s, q ≤ s → s < 5 → cv (runsTo (dsX X) 5) s = 0)) _ ⟨5, va, vc, rfl, n46.ok, GI39, (n46.ne rfl s2I39), (n46.ne rfl s3I39), (n46.ne rfl s4I39), kb9I39, kb19I39, (by rw [htk]; exact oVI39), oMI39, zh1I39, by omega, fun s h1 h2 => by omega⟩ ?_
    rintro m517 aI516 w519 ⟨q, ua, uc, hmI516, okI516, GI516, s2I516, s3I516, s4I516, kb9I516, kb19I516, oVI516, oMI516, zh1I516, hqI516, hzI516⟩ KI516 hKI516
    have hcap := own_cap oVI516
    refine wp_seq_k (fun K520 hK520 => ?_)
    refine wp_seq_k (fun K521 hK521 => ?_)
    refine wp_region_lit ?_
    refine sv okI516 rfl (wn _ rfl) rfl (o_fa (z := 1) s4I516 Tryz.underlying33 rfl (by kernel_rfl) rfl rfl) (fun an522 n522 => ?_)
    refine sv n522.ok rfl (wn _ rfl) rfl (o_ld n522.at_ (Tryz.isAgg30 _) (kb19I516.cell _ rfl)) (fun an523 n523 => ?_)
    refine sv n523.ok rfl (wn _ rfl) rfl (o_len n523.at_ Tryz.underlying30) (fun an524 n524 => ?_)
    refine sv n524.ok rfl (wn _ rfl) rfl (o_gtI n524.at_ ev_const) (fun an525 n525 => ?_)
    refine sv n525.ok rfl (wn _ rfl) rfl (o_mv n525.at_) (fun an526 n526 => ?_)
    by_cases c527 : (0 : Int) < (q : Int)
    · have e528 := (n526.at_).trans (congrArg Value.bool (decide_eq_true c527))
      have e529 := ((n526.ne rfl n525.at_)).trans (congrArg Value.bool (decide_eq_true c527))
      have e530 := n526.ne rfl (n525.ne rfl (n524.ne rfl (n523.ne rfl (n522.ne rfl s4I516))))
      refine sv n526.ok rfl (wgT rfl (yl 4 true rfl e528) rfl) rfl (o_fa (z := 1) e530 Tryz.underlying33 rfl (by kernel_rfl) rfl rfl) (fun an531 n531 => ?_)
      refine sv n531.ok rfl (wgT rfl (yl 4 true rfl (n531.ne rfl e528)) rfl) rfl (o_ld n531.at_ (Tryz.isAgg30 _) (kb19I516.cell _ rfl)) (fun an532 n532 => ?_)
      refine sv n532.ok rfl (wgT rfl (yl 4 true rfl (n532.ne rfl (n531.ne rfl e528))) rfl) rfl (o_fa (z := 1) (n532.ne rfl (n531.ne rfl e530)) Tryz.underlying33 rfl (by kernel_rfl) rfl rfl) (fun an533 n533 => ?_)
      have e534 := n533.ne rfl (n532.ne rfl (n531.ne rfl e528))
      refine sv n533.ok rfl (wgT rfl (yl 4 true rfl e534) rfl) rfl (o_ld n533.at_ (Tryz.isAgg30 _) (kb19I516.cell _ rfl)) (fun an535 n535 => ?_)
      refine sv n535.ok rfl (wgT rfl (yl 4 true rfl (n535.ne rfl e534)) rfl) rfl (o_len n535.at_ Tryz.underlying30) (fun an536 n536 => ?_)
      refine sv n536.ok rfl (wgT rfl (yl 4 true rfl (n536.ne rfl (n535.ne rfl e534))) rfl) rfl (o_sub (r := ((q - 1 : Nat) : Int)) n536.at_ ev_const (by omega) (by omega)) (fun an537 n537 => ?_)
      have e538 := n537.ne rfl (n536.ne rfl (n535.ne rfl e534))
      have e539 := n537.ne rfl (n536.ne rfl (n535.ne rfl (n533.ne rfl n532.at_)))
      obtain ⟨gVh540, h540a, -, h540c⟩ := ow_addr oVI516 (by omega)
      refine sv n537.ok rfl (wgT rfl (yl 4 true rfl e538) rfl) rfl (o_iaV (i := q - 1) (s := 1) h540a e539 n537.at_ Tryz.underlying30 (by kernel_rfl) (by omega)) (fun an541 n541 => ?_)
      refine sv n541.ok rfl (wgT rfl (yl 4 true rfl (n541.ne rfl e538)) rfl) rfl (o_ld n541.at_ (Tryz.isAgg3 _) (h540c _ _ (runs_take_at (dsX X) (by omega) (by omega)))) (fun an542 n542 => ?_)
      refine sv n542.ok rfl (wgT rfl (yl 4 true rfl (n542.ne rfl (n541.ne rfl e538))) rfl) rfl (o_eqI n542.at_ ev_const) (fun an543 n543 => ?_)
      have e544 := n543.ne rfl (n542.ne rfl (n541.ne rfl e538))
      refine sv n543.ok rfl (wn _ rfl) rfl (o_pkT e544 n543.at_) (fun an545 n545 => ?_)
      refine wpList_nil ?_
      refine th_n (hK521 _ _ ?_)
      by_cases c546 : ((run (dsX X) (q - 1) : Nat) : Int) = 0
      · refine wp_cond_true ((n545.at_).trans (congrArg Value.bool (decide_eq_true c546))) ?_
        have h62 : run (dsX X) (q - 1) = 0 := by omega
        refine wp_skip ?_
        refine th_n (hK520 _ _ ?_)
        refine wp_block ?_
        refine wp_region_lit ?_
        have e547 := n545.ne rfl (n543.ne rfl (n542.ne rfl (n541.ne rfl (n537.ne rfl (n536.ne rfl (n535.ne rfl (n533.ne rfl (n532.ne rfl (n531.ne rfl e530)))))))))
        refine sv n545.ok rfl (wn _ rfl) rfl (o_fa (z := 1) e547 Tryz.underlying33 rfl (by kernel_rfl) rfl rfl) (fun an548 n548 => ?_)
        refine sv n548.ok rfl (wn _ rfl) rfl (o_ld n548.at_ (Tryz.isAgg30 _) (kb19I516.cell _ rfl)) (fun an549 n549 => ?_)
        refine sv n549.ok rfl (wn _ rfl) rfl (o_fa (z := 1) (n549.ne rfl (n548.ne rfl e547)) Tryz.underlying33 rfl (by kernel_rfl) rfl rfl) (fun an550 n550 => ?_)
        refine sv n550.ok rfl (wn _ rfl) rfl (o_ld n550.at_ (Tryz.isAgg30 _) (kb19I516.cell _ rfl)) (fun an551 n551 => ?_)
        refine sv n551.ok rfl (wn _ rfl) rfl (o_len n551.at_ Tryz.underlying30) (fun an552 n552 => ?_)
        refine sv n552.ok rfl (wn _ rfl) rfl (o_sub (r := ((q - 1 : Nat) : Int)) n552.at_ ev_const (by omega) (by omega)) (fun an553 n553 => ?_)
        have e554 := n553.ne rfl (n552.ne rfl (n551.ne rfl (n550.ne rfl n549.at_)))
        refine sv n553.ok rfl (wn _ rfl) rfl (o_cut (k := q - 1) (s := 1) e554 n553.at_ Tryz.underlying30 (by kernel_rfl) (by omega)) (fun an555 n555 => ?_)
        have e556 := n555.ne rfl (n553.ne rfl (n552.ne rfl (n551.ne rfl (n550.ne rfl (n549.ne rfl (n548.ne rfl e547))))))
        refine sv n555.ok rfl (wn _ rfl) rfl (o_fa (z := 1) e556 Tryz.underlying33 rfl (by kernel_rfl) rfl rfl) (fun an557 n557 => ?_)
        refine ssC rfl (wn _ rfl) (o_st n557.at_ (n557.ne rfl n555.at_) kb19I516 rfl (by kernel_rfl) rfl) kb19I516 (fun w558 u559 u559b => ?_)
        have G560 : Gr w w558 := Below.upd GI516 l24 u559
        have B561 := kb9I516.upd u559 (Nat.ne_of_lt l23)
        have z562 : h1 ≤ w558.heap.size := by rw [u559.size]; exact zh1I516
        have O563 := ow_upd oVI516 u559 l34
        have O564 := ow_upd oMI516 u559 l34
        refine wpList_nil ?_
        refine ib_n ?_
        have e565 := n557.ne rfl (n555.ne rfl (n553.ne rfl (n552.ne rfl (n551.ne rfl (n550.ne rfl (n549.ne rfl (n548.ne rfl (n545.ne rfl (n543.ne rfl (n542.ne rfl (n541.ne rfl (n537.ne rfl (n536.ne rfl (n535.ne rfl (n533.ne rfl (n532.ne rfl (n531.ne rfl (n526.ne rfl (n525.ne rfl (n524.ne rfl (n523.ne rfl (n522.ne rfl s2I516))))))))))))))))))))))
        have e566 := n557.ne rfl (n555.ne rfl (n553.ne rfl (n552.ne rfl (n551.ne rfl (n550.ne rfl (n549.ne rfl (n548.ne rfl (n545.ne rfl (n543.ne rfl (n542.ne rfl (n541.ne rfl (n537.ne rfl (n536.ne rfl (n535.ne rfl (n533.ne rfl (n532.ne rfl (n531.ne rfl (n526.ne rfl (n525.ne rfl (n524.ne rfl (n523.ne rfl (n522.ne rfl s3I516))))))))))))))))))))))
        exact th_n (hKI516 _ _ _ (by omega) ⟨q - 1, ua, uc, rfl, n557.ok, G560, e565, e566, (n557.ne rfl e556), B561, u559b, (own_cut_runs (dsX X) (by omega) O563), O564, z562, by omega, zero_back hzI516 h62 (by omega) (by omega)⟩)
      · refine wp_cond_false ((n545.at_).trans (congrArg Value.bool (decide_eq_false c546))) ?_
        have h62 : run (dsX X) (q - 1) ≠ 0 := by omega
        have hFV := form_vec (dsX X) q hqI516 hzI516 (.inr ⟨by omega, h62⟩)
        refine wp_exit ?_
        refine th_x ?_
        refine th_x ?_
        refine ib_x ?_
        refine th_n (hK515 _ _ ?_)
        refine wp_seq_k (fun K567 hK567 => ?_)
        refine h_start [b9] 7 #[false, false, false, false, false, false, false] (by kernel_rfl) rfl rfl ?_
        have S568 := Sx.drew [b9] w519
        have g569 := (Gr.refl w519).drew
        generalize w519.drew = w570 at *
        have G571 := GI516.trans g569
        have B572 := kb9I516.gr g569
        have B573 := kb19I516.gr g569
        have z574 := Nat.le_trans zh1I516 g569.size
        have O575 := ow_gr oVI516 g569
        have O576 := ow_gr oMI516 g569
        have e577 := n545.ne rfl (n543.ne rfl (n542.ne rfl (n541.ne rfl (n537.ne rfl (n536.ne rfl (n535.ne rfl (n533.ne rfl (n532.ne rfl (n531.ne rfl e530)))))))))
        refine h_take (i := 0) (fuel := 6) n545.ok rfl rfl rfl (by kernel_rfl) (by kernel_rfl) (by kernel_rfl) (fun _ _ _ _ _ h => h) (wn _ rfl) (fun x hx => o_ldR e577 (Sx.bk hx kb19I516 (by simp <;> omega)) Tryz.underlying33 rfl (by kernel_rfl)) S568 (fun an578 n578 => ?_)
        refine h_take (i := 1) (fuel := 5) n578.ok rfl rfl rfl (by kernel_rfl) (by kernel_rfl) (by kernel_rfl) (fun _ _ _ _ _ h => h) (wn _ rfl) (fun x hx => o_fa (z := 1) (n578.ne rfl e577) Tryz.underlying33 rfl (by kernel_rfl) rfl rfl) S568 (fun an579 n579 => ?_)
        refine h_take (i := 2) (fuel := 4) n579.ok rfl rfl rfl (by kernel_rfl) (by kernel_rfl) (by kernel_rfl) (fun _ _ _ _ _ h => h) (wn _ rfl) (fun x hx => o_ld n579.at_ (Tryz.isAgg31 _) ((Sx.bk hx kb19I516 (by simp <;> omega)).cell _ rfl)) S568 (fun an580 n580 => ?_)
        refine h_take (i := 3) (fuel := 3) n580.ok rfl rfl rfl (by kernel_rfl) (by kernel_rfl) (by kernel_rfl) (fun _ _ _ _ _ h => h) (wn _ rfl) (fun x hx => o_len n580.at_ Tryz.underlying31) S568 (fun an581 n581 => ?_)
        refine h_take (i := 4) (fuel := 2) n581.ok rfl rfl rfl (by kernel_rfl) (by kernel_rfl) (by kernel_rfl) (fun _ _ _ _ _ h => h) (wn _ rfl) (fun x hx => o_leI n581.at_ ev_const) S568 (fun an582 n582 => ?_)
        have e583 := n582.ne rfl (n581.ne rfl (n580.ne rfl (n579.ne rfl (n578.ne rfl (n545.ne rfl (n543.ne rfl (n542.ne rfl (n541.ne rfl (n537.ne rfl (n536.ne rfl (n535.ne rfl (n533.ne rfl (n532.ne rfl (n531.ne rfl (n526.ne rfl (n525.ne rfl (n524.ne rfl (n523.ne rfl (n522.ne rfl s2I516)))))))))))))))))))
        have e584 := n582.ne rfl (n581.ne rfl (n580.ne rfl (n579.ne rfl n578.at_)))
        refine h_stR (i := 5) (fuel := 1) (by kernel_rfl) rfl rfl (wn _ rfl) (o_stR e583 e584 B572 (by kernel_rfl) rfl (by simp [Value.oneCell'])) B572 S568 (by simp) (fun w585 u586 u586b S587 => ?_)
        have G588 : Gr w w585 := Below.upd G571 l13 u586
        have B589 := B573.upd u586 (Nat.ne_of_gt l23)
        have z590 : h1 ≤ w585.heap.size := by rw [u586.size]; exact z574
        have O591 := ow_upd O575 u586 l33
        have O592 := ow_upd O576 u586 l33
        refine h_take (i := 6) (fuel := 0) n582.ok rfl rfl rfl (by kernel_rfl) (by kernel_rfl) (by kernel_rfl) (fun _ _ _ _ _ h => h) (wn _ rfl) (fun x hx => o_as n582.at_) S587 (fun an593 n593 => ?_)
        refine wpAnyH_done (by kernel_rfl) ?_ _
        refine th_n (hK567 _ _ ?_)
        refine wp_ret ?_
        exact ret2 n593.ok rfl (⟨_, _, (n593.ne rfl e583), ld_row u586b Tryz.underlying33 rfl (by kernel_rfl)⟩) (n593.at_) ⟨_, by rw [leI_dec]; rfl, ⟨_, _, rfl, (by rw [hFV]; exact own_take_len (dsX X) (own_less O591 l35)), own_less O592 l35⟩, G588⟩
    · have e594 := (n526.at_).trans (congrArg Value.bool (decide_eq_false c527))
      have e595 := ((n526.ne rfl n525.at_)).trans (congrArg Value.bool (decide_eq_false c527))
      have hFV := form_vec (dsX X) q hqI516 hzI516 (.inl (by omega))
      refine sn n526.ok rfl (wgF rfl (yl 4 false rfl e594) rfl) rfl (fun an596 n596 => ?_)
      refine sn n596.ok rfl (wgF rfl (yl 4 false rfl (n596.ne rfl e594)) rfl) rfl (fun an597 n597 => ?_)
      refine sn n597.ok rfl (wgF rfl (yl 4 false rfl (n597.ne rfl (n596.ne rfl e594))) rfl) rfl (fun an598 n598 => ?_)
      have e599 := n598.ne rfl (n597.ne rfl (n596.ne rfl e594))
      refine sn n598.ok rfl (wgF rfl (yl 4 false rfl e599) rfl) rfl (fun an600 n600 => ?_)
      refine sn n600.ok rfl (wgF rfl (yl 4 false rfl (n600.ne rfl e599)) rfl) rfl (fun an601 n601 => ?_)
      refine sn n601.ok rfl (wgF rfl (yl 4 false rfl (n601.ne rfl (n600.ne rfl e599))) rfl) rfl (fun an602 n602 => ?_)
      have e603 := n602.ne rfl (n601.ne rfl (n600.ne rfl e599))
      refine sn n602.ok rfl (wgF rfl (yl 4 false rfl e603) rfl) rfl (fun an604 n604 => ?_)
      refine sn n604.ok rfl (wgF rfl (yl 4 false rfl (n604.ne rfl e603)) rfl) rfl (fun an605 n605 => ?_)
      refine sn n605.ok rfl (wgF rfl (yl 4 false rfl (n605.ne rfl (n604.ne rfl e603))) rfl) rfl (fun an606 n606 => ?_)
      have e607 := n606.ne rfl (n605.ne rfl (n604.ne rfl e603))
      refine sv n606.ok rfl (wn _ rfl) rfl (o_pkF e607 ev_const) (fun an608 n608 => ?_)
      refine wpList_nil ?_
      refine th_n (hK521 _ _ ?_)
      refine wp_cond_false (n608.at_) ?_
      refine wp_exit ?_
      refine th_x ?_
      refine th_x ?_
      refine ib_x ?_
      refine th_n (hK515 _ _ ?_)
      refine wp_seq_k (fun K609 hK609 => ?_)
      refine h_start [b9] 7 #[false, false, false, false, false, false, false] (by kernel_rfl) rfl rfl ?_
      have S610 := Sx.drew [b9] w519
      have g611 := (Gr.refl w519).drew
      generalize w519.drew = w612 at *
      have G613 := GI516.trans g611
      have B614 := kb9I516.gr g611
      have B615 := kb19I516.gr g611
      have z616 := Nat.le_trans zh1I516 g611.size
      have O617 := ow_gr oVI516 g611
      have O618 := ow_gr oMI516 g611
      have e619 := n608.ne rfl (n606.ne rfl (n605.ne rfl (n604.ne rfl (n602.ne rfl (n601.ne rfl (n600.ne rfl (n598.ne rfl (n597.ne rfl (n596.ne rfl (n526.ne rfl (n525.ne rfl (n524.ne rfl (n523.ne rfl (n522.ne rfl s4I516))))))))))))))
      refine h_take (i := 0) (fuel := 6) n608.ok rfl rfl rfl (by kernel_rfl) (by kernel_rfl) (by kernel_rfl) (fun _ _ _ _ _ h => h) (wn _ rfl) (fun x hx => o_ldR e619 (Sx.bk hx kb19I516 (by simp <;> omega)) Tryz.underlying33 rfl (by kernel_rfl)) S610 (fun an620 n620 => ?_)
      refine h_take (i := 1) (fuel := 5) n620.ok rfl rfl rfl (by kernel_rfl) (by kernel_rfl) (by kernel_rfl) (fun _ _ _ _ _ h => h) (wn _ rfl) (fun x hx => o_fa (z := 1) (n620.ne rfl e619) Tryz.underlying33 rfl (by kernel_rfl) rfl rfl) S610 (fun an621 n621 => ?_)
      refine h_take (i := 2) (fuel := 4) n621.ok rfl rfl rfl (by kernel_rfl) (by kernel_rfl) (by kernel_rfl) (fun _ _ _ _ _ h => h) (wn _ rfl) (fun x hx => o_ld n621.at_ (Tryz.isAgg31 _) ((Sx.bk hx kb19I516 (by simp <;> omega)).cell _ rfl)) S610 (fun an622 n622 => ?_)
      refine h_take (i := 3) (fuel := 3) n622.ok rfl rfl rfl (by kernel_rfl) (by kernel_rfl) (by kernel_rfl) (fun _ _ _ _ _ h => h) (wn _ rfl) (fun x hx => o_len n622.at_ Tryz.underlying31) S610 (fun an623 n623 => ?_)
      refine h_take (i := 4) (fuel := 2) n623.ok rfl rfl rfl (by kernel_rfl) (by kernel_rfl) (by kernel_rfl) (fun _ _ _ _ _ h => h) (wn _ rfl) (fun x hx => o_leI n623.at_ ev_const) S610 (fun an624 n624 => ?_)
      have e625 := n624.ne rfl (n623.ne rfl (n622.ne rfl (n621.ne rfl (n620.ne rfl (n608.ne rfl (n606.ne rfl (n605.ne rfl (n604.ne rfl (n602.ne rfl (n601.ne rfl (n600.ne rfl (n598.ne rfl (n597.ne rfl (n596.ne rfl (n526.ne rfl (n525.ne rfl (n524.ne rfl (n523.ne rfl (n522.ne rfl s2I516)))))))))))))))))))
      have e626 := n624.ne rfl (n623.ne rfl (n622.ne rfl (n621.ne rfl n620.at_)))
      refine h_stR (i := 5) (fuel := 1) (by kernel_rfl) rfl rfl (wn _ rfl) (o_stR e625 e626 B614 (by kernel_rfl) rfl (by simp [Value.oneCell'])) B614 S610 (by simp) (fun w627 u628 u628b S629 => ?_)
      have G630 : Gr w w627 := Below.upd G613 l13 u628
      have B631 := B615.upd u628 (Nat.ne_of_gt l23)
      have z632 : h1 ≤ w627.heap.size := by rw [u628.size]; exact z616
      have O633 := ow_upd O617 u628 l33
      have O634 := ow_upd O618 u628 l33
      refine h_take (i := 6) (fuel := 0) n624.ok rfl rfl rfl (by kernel_rfl) (by kernel_rfl) (by kernel_rfl) (fun _ _ _ _ _ h => h) (wn _ rfl) (fun x hx => o_as n624.at_) S629 (fun an635 n635 => ?_)
      refine wpAnyH_done (by kernel_rfl) ?_ _
      refine th_n (hK609 _ _ ?_)
      refine wp_ret ?_
      exact ret2 n635.ok rfl (⟨_, _, (n635.ne rfl e625), ld_row u628b Tryz.underlying33 rfl (by kernel_rfl)⟩) (n635.at_) ⟨_, by rw [leI_dec]; rfl, ⟨_, _, rfl, (by rw [hFV]; exact own_take_len (dsX X) (own_less O633 l35)), own_less O634 l35⟩, G630⟩
end Go.Proofs.YtghjfakellaecaaGreat

/- The document's sets of dots: All, Size, Formed. -/
set_option linter.unusedVariables false
set_option linter.unusedSimpArgs false
namespace Rm
open Go Go.RowKit Gx
theorem ne_nil_of_lt {α : Type} {l : List α} {i : Nat} (h : i < l.length) : l ≠ [] := fun e => by rw [e] at h; cases h
def RdI1 (w : World) (a : Option Addr) (V : List Int) : Prop := V ≠ [] → ∃ b off, a = some ⟨b, off, none⟩ ∧ b < w.heap.size ∧ ∀ i x, V[i]? = some x → w.cell? ⟨b, off + i * 1, none⟩ = some (.int .i64 x)
def RdDI (w : World) (a : Option Addr) (M : List (Int × Int)) : Prop := M ≠ [] → ∃ b off, a = some ⟨b, off, none⟩ ∧ b < w.heap.size ∧ ∀ i (p : Int × Int), M[i]? = some p → w.cell? ⟨b, off + i * 2, none⟩ = some (.int .i64 p.1) ∧ w.cell? ⟨b, off + i * 2 + 1, none⟩ = some (.int .i64 p.2)
theorem knr_form {w : World} {k : Value} {V : List Int} {M : List (Int × Int)} (h : KnR w k V M) : ∃ va vc ma mc, k = .agg #[.slice va V.length vc, .slice ma M.length mc] ∧ RdI1 w va V ∧ RdDI w ma M := by
  obtain ⟨vv, mv, rfl, ⟨va, vc, rfl, -, hv⟩, ⟨ma, mc, rfl, -, hm⟩, -⟩ := h
  refine ⟨va, vc, ma, mc, rfl, fun hn => ?_, hm⟩
  obtain ⟨b, off, e, hb, hx⟩ := hv hn
  exact ⟨b, off, e, hb, fun i x h => by rw [Nat.mul_one]; exact hx i x h⟩
end Rm
namespace Gx
open Go Go.RowKit Rm
theorem Sx.cell {bs : List Nat} {w x : World} {b o : Nat} (h : Sx bs w x) (hn : b ∉ bs) : x.cell? ⟨b, o, none⟩ = w.cell? ⟨b, o, none⟩ := by
  unfold World.cell?
  rw [h b hn]
section
variable {P : Program} {ev : Operand → Value} {d : Option Tmp} {ty : TypeId} {p : String} {af : Array Edge} {g : Option (Nat × Bool)} {w : World}
end
end Gx
namespace Go.Proofs.YtghjfakellaecaaGreat
open Go.RowKit Rm Gx
end Go.Proofs.YtghjfakellaecaaGreat

/- slices.IndexFunc, ContainsFunc, DeleteFunc at parts. -/
set_option linter.unusedVariables false
set_option linter.unusedSimpArgs false
namespace Go.Proofs.YtghjfakellaecaaGreat
open Go.RowKit Rm Gx
set_option maxHeartbeats 8000000 in
set_option maxRecDepth 100000 in
theorem indexP (K : List PtX) (va : Option Addr) (vc : Nat) (f : FuncId) (caps : List Value) (p : PtX → Bool) (hf : FnOk Tryz.prog f) (hl : K.length ≤ 100000) (w : World) (hv : RdA encP 3 w va K) (hc : ∀ x ∈ K, ∀ w1, Gr w w1 → Calls Tryz.prog f (.agg #[.slice x.fa x.fn x.fc, .slice x.va x.vn x.vc, .slice x.ma x.mn x.mc] :: caps).toArray w1 fun e w2 => e = .returned (.bool (p x)) ∧ Gr w1 w2) :
    Calls Tryz.prog 111 #[.slice va K.length vc, .func (.func f) #[] caps.toArray] w fun e w' => e = .returned (.int .i64 (ixF p K 0)) ∧ Gr w w' := by
  refine enter (N := 19) Tryz.func111 rfl rfl rfl (fun a0 ok0 h0 => ?_)
  have e0_0 : a0.eval (.tmp 0) = .slice va K.length vc := h0 0 _ rfl
  have e0_1 : a0.eval (.tmp 1) = .func (.func f) #[] caps.toArray := h0 1 _ rfl
  clear h0
  have G0 := Gr.refl w
  refine wp_seq_k (fun K1 hK1 => ?_)
  refine wp_region_lit ?_
  refine sv ok0 rfl (wn _ rfl) rfl (o_as ev_const) (fun an2 n2 => ?_)
  refine wpList_nil ?_
  refine th_n (hK1 _ _ ?_)
  refine wp_seq_k (fun K3 hK3 => ?_)
  refine wp_seq_k (fun K4 hK4 => ?_)
  refine wp_region_lit ?_
  refine sv n2.ok rfl (wn _ rfl) rfl (o_mv (n2.ne rfl e0_0)) (fun an5 n5 => ?_)
  refine sv n5.ok rfl (wn _ rfl) rfl (o_len n5.at_ Tryz.underlying22) (fun an6 n6 => ?_)
  refine sv n6.ok rfl (wn _ rfl) rfl (o_mv ev_const) (fun an7 n7 => ?_)
  refine wpList_nil ?_
  refine th_n (hK4 _ _ ?_)
  refine wp_block ?_
  have e9 := n7.ne rfl (n6.ne rfl (n5.ne rfl (n2.ne rfl e0_0)))
  have e10 := n7.ne rfl (n6.ne rfl (n5.ne rfl (n2.ne rfl e0_1)))
  have e11 := n7.ne rfl (n6.ne rfl (n5.ne rfl n2.at_))
  refine lp (fun (nL : Nat) (aL : Act) (wL : World) => ∃ i : Nat, nL = K.length - i ∧ Ok 19 aL ∧ Gr w wL ∧ (aL.eval (.tmp 0) = .slice va K.length vc) ∧ (aL.eval (.tmp 1) = .func (.func f) #[] caps.toArray) ∧ (aL.eval (.tmp 4) = .int .i64 0) ∧ (aL.eval (.tmp 7) = .int .i64 ((K.length : Nat) : Int)) ∧ (aL.eval (.tmp 8) = .int .i64 (i : Int)) ∧ (i ≤ K.length) ∧ (∀ k y, k < i → K[k]? = some y → p y = false)) _ ⟨0, rfl, n7.ok, G0, e9, e10, e11, (n7.ne rfl n6.at_), n7.at_, by omega, fun k y hk => by omega⟩ ?_
  rintro m12 aI8 w14 ⟨i, hmI8, okI8, GI8, s0I8, s1I8, s4I8, s7I8, s8I8, hiI8, hbI8⟩ KI8 hKI8
  refine wp_seq_k (fun K15 hK15 => ?_)
  refine wp_region_lit ?_
  refine sv okI8 rfl (wn _ rfl) rfl (o_ltI s8I8 s7I8) (fun an16 n16 => ?_)
  refine wpList_nil ?_
  refine th_n (hK15 _ _ ?_)
  refine wp_seq_k (fun K17 hK17 => ?_)
  by_cases c18 : (i : Int) < ((K.length : Nat) : Int)
  · refine wp_cond_true ((n16.at_).trans (congrArg Value.bool (decide_eq_true c18))) ?_
    refine wp_skip ?_
    refine th_n (hK17 _ _ ?_)
    refine wp_seq_k (fun K19 hK19 => ?_)
    refine wp_block ?_
    refine wp_seq_k (fun K20 hK20 => ?_)
    refine wp_region_lit ?_
    refine sv n16.ok rfl (wn _ rfl) rfl (o_mv (n16.ne rfl s8I8)) (fun an21 n21 => ?_)
    refine sv n21.ok rfl (wn _ rfl) rfl (o_as n21.at_) (fun an22 n22 => ?_)
    refine wpList_nil ?_
    refine th_n (hK20 _ _ ?_)
    refine wp_seq_k (fun K23 hK23 => ?_)
    refine wp_region_lit ?_
    have e24 := n22.ne rfl (n21.ne rfl (n16.ne rfl s1I8))
    refine sv n22.ok rfl (wn _ rfl) rfl (o_mv e24) (fun an25 n25 => ?_)
    have e26 := n25.ne rfl (n22.ne rfl (n21.ne rfl (n16.ne rfl s0I8)))
    refine sv n25.ok rfl (wn _ rfl) rfl (o_mv e26) (fun an27 n27 => ?_)
    refine sv n27.ok rfl (wn _ rfl) rfl (o_mv (n27.ne rfl (n25.ne rfl n22.at_))) (fun an28 n28 => ?_)
    have h29l : i < List.length K := by omega
    obtain ⟨bh29, fh29, h29a, h29b, h29c⟩ := hv (ne_nil_of_lt h29l)
    obtain ⟨xh29, h29x⟩ : ∃ x, (K)[i]? = some x := ⟨_, List.getElem?_eq_getElem h29l⟩
    refine sv n28.ok rfl (wn _ rfl) rfl (o_iaV (i := i) (s := 3) h29a (n28.ne rfl n27.at_) n28.at_ Tryz.underlying22 (by kernel_rfl) h29l) (fun an30 n30 => ?_)
    refine sv n30.ok rfl (wn _ rfl) rfl (o_ldA (k := fh29 + i * 3) n30.at_ (cs := [.slice xh29.fa xh29.fn xh29.fc, .slice xh29.va xh29.vn xh29.vc, .slice xh29.ma xh29.mn xh29.mc]) (fun j v hv => (Below.cell GI8 h29b).trans (h29c _ _ h29x j v hv)) Tryz.underlying35 rfl (by kernel_rfl)) (fun an31 n31 => ?_)
    have e32 := n31.ne rfl (n30.ne rfl (n28.ne rfl (n27.ne rfl n25.at_)))
    refine sc n31.ok rfl (wn _ rfl) rfl (o_fv1 (caps := caps) hf e32 n31.at_) (hc _ (List.mem_of_getElem? h29x) w14 GI8) ?_
    rintro _ w34 ⟨rfl, g35⟩
    refine ⟨_, rfl, fun an33 n33 => ?_⟩
    have G36 := GI8.trans g35
    refine wpList_nil ?_
    refine th_n (hK23 _ _ ?_)
    cases c37 : (p xh29)
    · refine wp_cond_false ((n33.at_).trans (congrArg Value.bool (c37))) ?_
      refine wp_skip ?_
      refine ib_n ?_
      refine th_n (hK19 _ _ ?_)
      refine wp_region_lit ?_
      have e38 := n33.ne rfl (n31.ne rfl (n30.ne rfl (n28.ne rfl (n27.ne rfl (n25.ne rfl (n22.ne rfl (n21.ne rfl (n16.ne rfl s8I8))))))))
      refine sv n33.ok rfl (wn _ rfl) rfl (o_add (r := ((i + 1 : Nat) : Int)) e38 ev_const (by omega) (by omega)) (fun an39 n39 => ?_)
      refine sv n39.ok rfl (wn _ rfl) rfl (o_mv n39.at_) (fun an40 n40 => ?_)
      refine wpList_nil ?_
      have e41 := n40.ne rfl (n39.ne rfl (n33.ne rfl (n31.ne rfl (n30.ne rfl (n28.ne rfl (n27.ne rfl e26))))))
      have e42 := n40.ne rfl (n39.ne rfl (n33.ne rfl (n31.ne rfl (n30.ne rfl (n28.ne rfl (n27.ne rfl (n25.ne rfl e24)))))))
      have e43 := n40.ne rfl (n39.ne rfl (n33.ne rfl (n31.ne rfl (n30.ne rfl (n28.ne rfl (n27.ne rfl (n25.ne rfl (n22.ne rfl (n21.ne rfl (n16.ne rfl s4I8))))))))))
      have e44 := n40.ne rfl (n39.ne rfl (n33.ne rfl (n31.ne rfl (n30.ne rfl (n28.ne rfl (n27.ne rfl (n25.ne rfl (n22.ne rfl (n21.ne rfl (n16.ne rfl s7I8))))))))))
      exact th_n (hKI8 _ _ _ (by omega) ⟨i + 1, rfl, n40.ok, G36, e41, e42, e43, e44, n40.at_, by omega, fun k y hk hy => by
          rcases Nat.lt_or_ge k i with q | q
          · exact hbI8 k y q hy
          · obtain rfl : k = i := by omega
            rw [h29x] at hy
            cases hy
            exact c37⟩)
    · refine wp_cond_true ((n33.at_).trans (congrArg Value.bool (c37))) ?_
      refine wp_seq_k (fun K45 hK45 => ?_)
      refine wp_region_lit ?_
      have e46 := n33.ne rfl (n31.ne rfl (n30.ne rfl (n28.ne rfl (n27.ne rfl (n25.ne rfl n22.at_)))))
      refine sv n33.ok rfl (wn _ rfl) rfl (o_mv e46) (fun an47 n47 => ?_)
      refine sv n47.ok rfl (wn _ rfl) rfl (o_as n47.at_) (fun an48 n48 => ?_)
      refine wpList_nil ?_
      refine th_n (hK45 _ _ ?_)
      refine wp_ret ?_
      refine ib_r ?_
      refine th_r ?_
      refine th_r ?_
      refine ib_r ?_
      refine th_r ?_
      exact ret1 n48.ok rfl (n48.at_) ⟨congrArg (fun n => Ending.returned (Value.int .i64 n)) ((ixF_some K 0 i _ h29x c37 hbI8).trans (congrArg Int.ofNat (Nat.zero_add _))).symm, G36⟩
  · refine wp_cond_false ((n16.at_).trans (congrArg Value.bool (decide_eq_false c18))) ?_
    refine wp_exit ?_
    refine th_x ?_
    refine th_x ?_
    refine ib_x ?_
    refine th_n (hK3 _ _ ?_)
    refine wp_seq_k (fun K49 hK49 => ?_)
    refine wp_region_lit ?_
    refine sv n16.ok rfl (wn _ rfl) rfl (o_as ev_const) (fun an50 n50 => ?_)
    refine wpList_nil ?_
    refine th_n (hK49 _ _ ?_)
    refine wp_ret ?_
    exact ret1 n50.ok rfl (n50.at_) ⟨congrArg (fun n => Ending.returned (Value.int .i64 n)) (ixF_none K 0 (fun x hx => by
        obtain ⟨k, hk⟩ := List.getElem?_of_mem hx
        have hlt := (List.getElem?_eq_some_iff.1 hk).1
        exact hbI8 k x (by omega) hk)).symm, GI8⟩
set_option maxHeartbeats 8000000 in
set_option maxRecDepth 100000 in
theorem containsP (K : List PtX) (va : Option Addr) (vc : Nat) (f : FuncId) (caps : List Value) (p : PtX → Bool) (hf : FnOk Tryz.prog f) (hl : K.length ≤ 100000) (w : World) (hv : RdA encP 3 w va K) (hc : ∀ x ∈ K, ∀ w1, Gr w w1 → Calls Tryz.prog f (.agg #[.slice x.fa x.fn x.fc, .slice x.va x.vn x.vc, .slice x.ma x.mn x.mc] :: caps).toArray w1 fun e w2 => e = .returned (.bool (p x)) ∧ Gr w1 w2) :
    Calls Tryz.prog 61 #[.slice va K.length vc, .func (.func f) #[] caps.toArray] w fun e w' => e = .returned (.bool (K.any p)) ∧ Gr w w' := by
  refine enter (N := 9) Tryz.func61 rfl rfl rfl (fun a0 ok0 h0 => ?_)
  have e0_0 : a0.eval (.tmp 0) = .slice va K.length vc := h0 0 _ rfl
  have e0_1 : a0.eval (.tmp 1) = .func (.func f) #[] caps.toArray := h0 1 _ rfl
  clear h0
  have G0 := Gr.refl w
  refine wp_seq_k (fun K1 hK1 => ?_)
  refine wp_region_lit ?_
  refine sv ok0 rfl (wn _ rfl) rfl (o_as ev_const) (fun an2 n2 => ?_)
  refine wpList_nil ?_
  refine th_n (hK1 _ _ ?_)
  refine wp_seq_k (fun K3 hK3 => ?_)
  refine wp_region_lit ?_
  refine sv n2.ok rfl (wn _ rfl) rfl (o_mv (n2.ne rfl e0_0)) (fun an4 n4 => ?_)
  refine sv n4.ok rfl (wn _ rfl) rfl (o_mv (n4.ne rfl (n2.ne rfl e0_1))) (fun an5 n5 => ?_)
  refine sc n5.ok rfl (wn _ rfl) rfl (o_f2 Tryz.func111 rfl rfl rfl (n5.ne rfl n4.at_) n5.at_) (indexP K va vc f caps p hf hl w (hv.gr G0) (fun x hx w1 g1 => hc x hx w1 (G0.trans g1))) ?_
  rintro _ w7 ⟨rfl, g8⟩
  refine ⟨_, rfl, fun an6 n6 => ?_⟩
  have G9 := G0.trans g8
  refine sv n6.ok rfl (wn _ rfl) rfl (o_geI n6.at_ ev_const) (fun an10 n10 => ?_)
  refine sv n10.ok rfl (wn _ rfl) rfl (o_as n10.at_) (fun an11 n11 => ?_)
  refine wpList_nil ?_
  refine th_n (hK3 _ _ ?_)
  refine wp_ret ?_
  exact ret1 n11.ok rfl (n11.at_) ⟨congrArg (fun b => Ending.returned (Value.bool b)) (ixF_any p K 0), G9⟩
theorem zero_parts (m : Nat) : ∀ u ∈ (Builtin.zeroCells (Value.agg #[.slice none 0 0, .slice none 0 0, .slice none 0 0]).cells m).toList, u.oneCell' = true := by
  intro u hu
  simp only [Builtin.zeroCells, Value.cells, Array.toList_map, List.mem_map] at hu
  obtain ⟨i, -, rfl⟩ := hu
  show ((#[.slice none 0 0, .slice none 0 0, .slice none 0 0] : Array Value)[i % 3]!).oneCell' = true
  have h : i % 3 = 0 ∨ i % 3 = 1 ∨ i % 3 = 2 := by omega
  rcases h with h | h | h <;> rw [h] <;> rfl
theorem indexP0 (f : FuncId) (caps : List Value) (p : PtX → Bool) (hf : FnOk Tryz.prog f) (w : World) : Calls Tryz.prog 111 #[.slice none 0 0, .func (.func f) #[] caps.toArray] w fun e w' => e = .returned (.int .i64 (-1)) ∧ Gr w w' :=
  indexP [] none 0 f caps p hf (by simp) w (fun h => absurd rfl h) (fun x hx => by cases hx)
set_option maxHeartbeats 8000000 in
set_option maxRecDepth 100000 in
theorem deleteP0 (f : FuncId) (caps : List Value) (p : PtX → Bool) (hf : FnOk Tryz.prog f) (w : World) :
    Calls Tryz.prog 101 #[.slice none 0 0, .func (.func f) #[] caps.toArray] w fun e w' => e = .returned (.slice none 0 0) ∧ Gr w w' := by
  refine enter (N := 42) Tryz.func101 rfl rfl rfl (fun a0 ok0 h0 => ?_)
  have e0_0 : a0.eval (.tmp 0) = .slice none 0 0 := h0 0 _ rfl
  have e0_1 : a0.eval (.tmp 1) = .func (.func f) #[] caps.toArray := h0 1 _ rfl
  clear h0
  have G0 := Gr.refl w
  refine wp_seq_k (fun K1 hK1 => ?_)
  refine wp_region_lit ?_
  refine sv ok0 rfl (wn _ rfl) rfl (o_as ev_const) (fun an2 n2 => ?_)
  refine wpList_nil ?_
  refine th_n (hK1 _ _ ?_)
  refine wp_seq_k (fun K3 hK3 => ?_)
  refine wp_region_lit ?_
  refine sv n2.ok rfl (wn _ rfl) rfl (o_mv (n2.ne rfl e0_0)) (fun an4 n4 => ?_)
  refine sv n4.ok rfl (wn _ rfl) rfl (o_mv (n4.ne rfl (n2.ne rfl e0_1))) (fun an5 n5 => ?_)
  refine sc n5.ok rfl (wn _ rfl) rfl (o_f2 Tryz.func111 rfl rfl rfl (n5.ne rfl n4.at_) n5.at_) (indexP0 f caps p hf w) ?_
  rintro _ w7 ⟨rfl, g8⟩
  refine ⟨_, rfl, fun an6 n6 => ?_⟩
  have G9 := G0.trans g8
  refine sv n6.ok rfl (wn _ rfl) rfl (o_as n6.at_) (fun an10 n10 => ?_)
  refine wpList_nil ?_
  refine th_n (hK3 _ _ ?_)
  refine wp_seq_k (fun K11 hK11 => ?_)
  refine wp_seq_k (fun K12 hK12 => ?_)
  refine wp_region_lit ?_
  refine sv n10.ok rfl (wn _ rfl) rfl (o_mv n10.at_) (fun an13 n13 => ?_)
  refine sv n13.ok rfl (wn _ rfl) rfl (o_eq (b := true) n13.at_ ev_const (by decide)) (fun an14 n14 => ?_)
  refine wpList_nil ?_
  refine th_n (hK12 _ _ ?_)
  refine wp_cond_true (n14.at_) ?_
  refine wp_seq_k (fun K15 hK15 => ?_)
  refine wp_region_lit ?_
  have e16 := n14.ne rfl (n13.ne rfl (n10.ne rfl (n6.ne rfl (n5.ne rfl (n4.ne rfl (n2.ne rfl e0_0))))))
  refine sv n14.ok rfl (wn _ rfl) rfl (o_mv e16) (fun an17 n17 => ?_)
  refine sv n17.ok rfl (wn _ rfl) rfl (o_as n17.at_) (fun an18 n18 => ?_)
  refine wpList_nil ?_
  refine th_n (hK15 _ _ ?_)
  refine wp_ret ?_
  refine th_r ?_
  exact ret1 n18.ok rfl (n18.at_) ⟨rfl, G9⟩
set_option maxHeartbeats 8000000 in
set_option maxRecDepth 100000 in
theorem deleteP1 (K : List PtX) (g vc base : Nat) (f : FuncId) (caps : List Value) (p : PtX → Bool) (hf : FnOk Tryz.prog f) (hl : K.length ≤ 100000) (hcap : K.length ≤ vc) (w0 w : World) (hG : Gr w0 w) (hB : w0.heap.size ≤ base) (hz : base ≤ w.heap.size) (ho : w.ownsRow base 35 3 (.slice (some ⟨g, 0, none⟩) K.length vc) K.length (flatE encP K)) (hc : ∀ x ∈ K, ∀ w1, w.grownBy w1 (some g) → Calls Tryz.prog f (.agg #[.slice x.fa x.fn x.fc, .slice x.va x.vn x.vc, .slice x.ma x.mn x.mc] :: caps).toArray w1 fun e w2 => e = .returned (.bool (p x)) ∧ Gr w1 w2) :
    Calls Tryz.prog 101 #[.slice (some ⟨g, 0, none⟩) K.length vc, .func (.func f) #[] caps.toArray] w fun e w' => ∃ n, e = .returned (.slice (some ⟨g, 0, none⟩) n vc) ∧ n = (K.filter (fun x => !p x)).length ∧ w'.ownsRow base 35 3 (.slice (some ⟨g, 0, none⟩) n vc) n (flatE encP (K.filter (fun x => !p x))) ∧ w.grownBy w' (some g) := by
  refine enter (N := 42) Tryz.func101 rfl rfl rfl (fun a0 ok0 h0 => ?_)
  have e0_0 : a0.eval (.tmp 0) = .slice (some ⟨g, 0, none⟩) K.length vc := h0 0 _ rfl
  have e0_1 : a0.eval (.tmp 1) = .func (.func f) #[] caps.toArray := h0 1 _ rfl
  clear h0
  refine wp_seq_k (fun K1 hK1 => ?_)
  refine wp_region_lit ?_
  refine sv ok0 rfl (wn _ rfl) rfl (o_as ev_const) (fun an2 n2 => ?_)
  refine wpList_nil ?_
  refine th_n (hK1 _ _ ?_)
  refine wp_seq_k (fun K3 hK3 => ?_)
  refine wp_region_lit ?_
  refine sv n2.ok rfl (wn _ rfl) rfl (o_mv (n2.ne rfl e0_0)) (fun an4 n4 => ?_)
  refine sv n4.ok rfl (wn _ rfl) rfl (o_mv (n4.ne rfl (n2.ne rfl e0_1))) (fun an5 n5 => ?_)
  refine sc n5.ok rfl (wn _ rfl) rfl (o_f2 Tryz.func111 rfl rfl rfl (n5.ne rfl n4.at_) n5.at_) (indexP K (some ⟨g, 0, none⟩) vc f caps p hf hl w (RdA.own encP_ok ho rfl) (fun x hx w1 g1 => hc x hx w1 (gb_gr (gb_self : w.grownBy w (some g)) g1))) ?_
  rintro _ w7 ⟨rfl, g8⟩
  refine ⟨_, rfl, fun an6 n6 => ?_⟩
  have G9 := hG.trans g8
  have z10 := Nat.le_trans hz g8.size
  have O11 := ow_gr ho g8
  have F12 := gb_gr (gb_self : w.grownBy w (some g)) g8
  refine sv n6.ok rfl (wn _ rfl) rfl (o_as n6.at_) (fun an13 n13 => ?_)
  refine wpList_nil ?_
  refine th_n (hK3 _ _ ?_)
  refine wp_seq_k (fun K14 hK14 => ?_)
  refine wp_seq_k (fun K15 hK15 => ?_)
  refine wp_region_lit ?_
  refine sv n13.ok rfl (wn _ rfl) rfl (o_mv n13.at_) (fun an16 n16 => ?_)
  refine sv n16.ok rfl (wn _ rfl) rfl (o_eqI n16.at_ ev_const) (fun an17 n17 => ?_)
  refine wpList_nil ?_
  refine th_n (hK15 _ _ ?_)
  by_cases c18 : (ixF p K 0) = (-1)
  · refine wp_cond_true ((n17.at_).trans (congrArg Value.bool (decide_eq_true c18))) ?_
    refine wp_seq_k (fun K19 hK19 => ?_)
    refine wp_region_lit ?_
    have e20 := n17.ne rfl (n16.ne rfl (n13.ne rfl (n6.ne rfl (n5.ne rfl (n4.ne rfl (n2.ne rfl e0_0))))))
    refine sv n17.ok rfl (wn _ rfl) rfl (o_mv e20) (fun an21 n21 => ?_)
    refine sv n21.ok rfl (wn _ rfl) rfl (o_as n21.at_) (fun an22 n22 => ?_)
    refine wpList_nil ?_
    refine th_n (hK19 _ _ ?_)
    refine wp_ret ?_
    refine th_r ?_
    exact ret1 n22.ok rfl (n22.at_) ⟨List.length K, rfl, by rw [ixF_neg c18], by rw [ixF_neg c18]; exact O11, F12⟩
  · refine wp_cond_false ((n17.at_).trans (congrArg Value.bool (decide_eq_false c18))) ?_
    obtain ⟨j0, x0, hj1, hj2, hj3, hj4⟩ := (ixF_ge p K 0).resolve_left c18
    have hj0 : ixF p K 0 = (j0 : Int) := by rw [hj1]; omega
    have hjl := (List.getElem?_eq_some_iff.1 hj2).1
    have e23 := ((n17.ne rfl (n16.ne rfl n13.at_))).trans (congrArg (Value.int .i64) hj0)
    refine wp_skip ?_
    refine th_n (hK14 _ _ ?_)
    refine wp_seq_k (fun K24 hK24 => ?_)
    refine wp_seq_k (fun K25 hK25 => ?_)
    refine wp_region_lit ?_
    refine sv n17.ok rfl (wn _ rfl) rfl (o_mv e23) (fun an26 n26 => ?_)
    refine sv n26.ok rfl (wn _ rfl) rfl (o_add (r := ((j0 + 1 : Nat) : Int)) n26.at_ ev_const (by omega) (by omega)) (fun an27 n27 => ?_)
    refine sv n27.ok rfl (wn _ rfl) rfl (o_as n27.at_) (fun an28 n28 => ?_)
    refine wpList_nil ?_
    refine th_n (hK25 _ _ ?_)
    refine wp_block ?_
    have e30 := n28.ne rfl (n27.ne rfl (n26.ne rfl (n17.ne rfl (n16.ne rfl (n13.ne rfl (n6.ne rfl (n5.ne rfl (n4.ne rfl (n2.ne rfl e0_0)))))))))
    have e31 := n28.ne rfl (n27.ne rfl (n26.ne rfl (n17.ne rfl (n16.ne rfl (n13.ne rfl (n6.ne rfl (n5.ne rfl (n4.ne rfl (n2.ne rfl e0_1)))))))))
    have e32 := n28.ne rfl (n27.ne rfl (n26.ne rfl (n17.ne rfl (n16.ne rfl (n13.ne rfl (n6.ne rfl (n5.ne rfl (n4.ne rfl n2.at_))))))))
    have e33 := n28.ne rfl (n27.ne rfl (n26.ne rfl e23))
    refine lp (fun (nL : Nat) (aL : Act) (wL : World) => ∃ i : Nat, ∃ j : Nat, ∃ M : List PtX, nL = K.length - j ∧ Ok 42 aL ∧ Gr w0 wL ∧ (aL.eval (.tmp 0) = .slice (some ⟨g, 0, none⟩) K.length vc) ∧ (aL.eval (.tmp 1) = .func (.func f) #[] caps.toArray) ∧ (aL.eval (.tmp 4) = .slice none 0 0) ∧ (aL.eval (.tmp 5) = .int .i64 (i : Int)) ∧ (aL.eval (.tmp 6) = .int .i64 (j : Int)) ∧ (w.grownBy wL (some g)) ∧ (World.ownsRow wL base 35 3 (.slice (some ⟨g, 0, none⟩) K.length vc) (K.length) ((flatE encP M))) ∧ (base ≤ wL.heap.size) ∧ (DelAt p K M i j)) _ ⟨j0, j0 + 1, K, rfl, n28.ok, G9, e30, e31, e32, e33, n28.at_, F12, O11, z10, DelAt.start hj2 hj3 (fun k y hk hy => hj4 k y hk hy)⟩ ?_
    rintro m34 aI29 w36 ⟨i, j, M, hmI29, okI29, GI29, s0I29, s1I29, s4I29, s5I29, s6I29, fgbI29, okrI29, zbaseI29, hdI29⟩ KI29 hKI29
    have hMlI29 := hdI29.len
    have hijI29 := hdI29.lt
    have hjKI29 := hdI29.jle
    refine wp_seq_k (fun K37 hK37 => ?_)
    refine wp_seq_k (fun K38 hK38 => ?_)
    refine wp_region_lit ?_
    refine sv okI29 rfl (wn _ rfl) rfl (o_mv s6I29) (fun an39 n39 => ?_)
    refine sv n39.ok rfl (wn _ rfl) rfl (o_mv (n39.ne rfl s0I29)) (fun an40 n40 => ?_)
    refine sv n40.ok rfl (wn _ rfl) rfl (o_len n40.at_ Tryz.underlying22) (fun an41 n41 => ?_)
    refine sv n41.ok rfl (wn _ rfl) rfl (o_ltI (n41.ne rfl (n40.ne rfl n39.at_)) n41.at_) (fun an42 n42 => ?_)
    refine wpList_nil ?_
    refine th_n (hK38 _ _ ?_)
    by_cases c43 : (j : Int) < ((K.length : Nat) : Int)
    · refine wp_cond_true ((n42.at_).trans (congrArg Value.bool (decide_eq_true c43))) ?_
      refine wp_skip ?_
      refine th_n (hK37 _ _ ?_)
      refine wp_seq_k (fun K44 hK44 => ?_)
      refine wp_block ?_
      refine wp_seq_k (fun K45 hK45 => ?_)
      refine wp_region_lit ?_
      have e46 := n42.ne rfl (n41.ne rfl (n40.ne rfl (n39.ne rfl s0I29)))
      refine sv n42.ok rfl (wn _ rfl) rfl (o_mv e46) (fun an47 n47 => ?_)
      have e48 := n47.ne rfl (n42.ne rfl (n41.ne rfl (n40.ne rfl (n39.ne rfl s6I29))))
      refine sv n47.ok rfl (wn _ rfl) rfl (o_mv e48) (fun an49 n49 => ?_)
      refine sv n49.ok rfl (wn _ rfl) rfl (o_ia (i := j) (s := 3) (n49.ne rfl n47.at_) n49.at_ Tryz.underlying22 (by kernel_rfl) (by omega)) (fun an50 n50 => ?_)
      have h51l : j < List.length M := by omega
      obtain ⟨xh51, h51x⟩ : ∃ x, M[j]? = some x := ⟨_, List.getElem?_eq_getElem h51l⟩
      refine sv n50.ok rfl (wn _ rfl) rfl (o_ldA (k := 0 + j * 3) n50.at_ (cs := [.slice xh51.fa xh51.fn xh51.fc, .slice xh51.va xh51.vn xh51.vc, .slice xh51.ma xh51.mn xh51.mc]) (ow_at encP_ok okrI29 hdI29.len.symm h51x) Tryz.underlying35 rfl (by kernel_rfl)) (fun an52 n52 => ?_)
      refine sal (cs := #[.slice none 0 0, .slice none 0 0, .slice none 0 0]) n52.ok rfl (wn _ rfl) rfl (o_al (z := .agg #[.slice none 0 0, .slice none 0 0, .slice none 0 0]) (by kernel_rfl)) (fun an53 w55 b54 W56 n53 => ?_)
      have l57 : w0.heap.size ≤ b54 := by rw [W56.eq]; exact GI29.size
      have l58 : ∀ k, Value.ownBlock (.slice (some ⟨g, 0, none⟩) K.length vc) = some k → k < b54 := fun k e => by rw [W56.eq]; exact ow_in okrI29 k e
      have l59 : w.heap.size ≤ b54 := by rw [W56.eq]; exact fgbI29.size
      have G60 := GI29.trans W56.gr
      have z61 := Nat.le_trans zbaseI29 W56.gr.size
      have O62 := ow_gr okrI29 W56.gr
      have F63 := gb_gr fgbI29 W56.gr
      refine ssR rfl (wn _ rfl) (o_stR n53.at_ (n53.ne rfl n52.at_) W56.bk (by kernel_rfl) rfl (by simp [Value.oneCell'])) W56.bk (fun w64 u65 u65b => ?_)
      have G66 : Gr w0 w64 := Below.upd G60 l57 u65
      have z67 : base ≤ w64.heap.size := by rw [u65.size]; exact z61
      have O68 := ow_upd_ne O62 u65 l58
      have F69 := gb_upd F63 u65 l59
      refine wpList_nil ?_
      refine th_n (hK45 _ _ ?_)
      refine wp_seq_k (fun K70 hK70 => ?_)
      refine wp_region_lit ?_
      have e71 := n53.ne rfl (n52.ne rfl (n50.ne rfl (n49.ne rfl (n47.ne rfl (n42.ne rfl (n41.ne rfl (n40.ne rfl (n39.ne rfl s1I29))))))))
      refine sv n53.ok rfl (wn _ rfl) rfl (o_mv e71) (fun an72 n72 => ?_)
      refine sv n72.ok rfl (wn _ rfl) rfl (o_ldR (n72.ne rfl n53.at_) u65b Tryz.underlying35 rfl (by kernel_rfl)) (fun an73 n73 => ?_)
      refine sc n73.ok rfl (wn _ rfl) rfl (o_fv1 (caps := caps) hf (n73.ne rfl n72.at_) n73.at_) (hc _ (List.mem_of_getElem? ((hdI29.rest j (Nat.le_refl _)).symm.trans h51x)) w64 F69) ?_
      rintro _ w75 ⟨rfl, g76⟩
      refine ⟨_, rfl, fun an74 n74 => ?_⟩
      have G77 := G66.trans g76
      have B78 := u65b.gr g76
      have z79 := Nat.le_trans z67 g76.size
      have O80 := ow_gr O68 g76
      have F81 := gb_gr F69 g76
      refine sv n74.ok rfl (wn _ rfl) rfl (o_notI n74.at_) (fun an82 n82 => ?_)
      refine wpList_nil ?_
      refine th_n (hK70 _ _ ?_)
      cases c83 : (!(p xh51))
      · refine wp_cond_false ((n82.at_).trans (congrArg Value.bool (c83))) ?_
        refine wp_skip ?_
        refine ib_n ?_
        refine th_n (hK44 _ _ ?_)
        refine wp_region_lit ?_
        have e84 := n82.ne rfl (n74.ne rfl (n73.ne rfl (n72.ne rfl (n53.ne rfl (n52.ne rfl (n50.ne rfl (n49.ne rfl e48)))))))
        refine sv n82.ok rfl (wn _ rfl) rfl (o_mv e84) (fun an85 n85 => ?_)
        refine sv n85.ok rfl (wn _ rfl) rfl (o_add (r := ((j + 1 : Nat) : Int)) n85.at_ ev_const (by omega) (by omega)) (fun an86 n86 => ?_)
        refine sv n86.ok rfl (wn _ rfl) rfl (o_as n86.at_) (fun an87 n87 => ?_)
        refine wpList_nil ?_
        have e88 := n87.ne rfl (n86.ne rfl (n85.ne rfl (n82.ne rfl (n74.ne rfl (n73.ne rfl (n72.ne rfl (n53.ne rfl (n52.ne rfl (n50.ne rfl (n49.ne rfl (n47.ne rfl e46)))))))))))
        have e89 := n87.ne rfl (n86.ne rfl (n85.ne rfl (n82.ne rfl (n74.ne rfl (n73.ne rfl (n72.ne rfl e71))))))
        have e90 := n87.ne rfl (n86.ne rfl (n85.ne rfl (n82.ne rfl (n74.ne rfl (n73.ne rfl (n72.ne rfl (n53.ne rfl (n52.ne rfl (n50.ne rfl (n49.ne rfl (n47.ne rfl (n42.ne rfl (n41.ne rfl (n40.ne rfl (n39.ne rfl s4I29)))))))))))))))
        have e91 := n87.ne rfl (n86.ne rfl (n85.ne rfl (n82.ne rfl (n74.ne rfl (n73.ne rfl (n72.ne rfl (n53.ne rfl (n52.ne rfl (n50.ne rfl (n49.ne rfl (n47.ne rfl (n42.ne rfl (n41.ne rfl (n40.ne rfl (n39.ne rfl s5I29)))))))))))))))
        exact th_n (hKI29 _ _ _ (by omega) ⟨i, j + 1, M, rfl, n87.ok, G77, e88, e89, e90, e91, n87.at_, F81, O80, z79, DelAt.skip hdI29 ((hdI29.rest j (Nat.le_refl _)).symm.trans h51x) (by simpa using c83)⟩)
      · refine wp_cond_true ((n82.at_).trans (congrArg Value.bool (c83))) ?_
        refine wp_seq_k (fun K92 hK92 => ?_)
        refine wp_region_lit ?_
        have e93 := n82.ne rfl (n74.ne rfl (n73.ne rfl (n72.ne rfl (n53.ne rfl (n52.ne rfl (n50.ne rfl (n49.ne rfl (n47.ne rfl e46))))))))
        refine sv n82.ok rfl (wn _ rfl) rfl (o_mv e93) (fun an94 n94 => ?_)
        have e95 := n94.ne rfl (n82.ne rfl (n74.ne rfl (n73.ne rfl (n72.ne rfl (n53.ne rfl (n52.ne rfl (n50.ne rfl (n49.ne rfl (n47.ne rfl (n42.ne rfl (n41.ne rfl (n40.ne rfl (n39.ne rfl s5I29)))))))))))))
        refine sv n94.ok rfl (wn _ rfl) rfl (o_mv e95) (fun an96 n96 => ?_)
        have e97 := n96.ne rfl (n94.ne rfl (n82.ne rfl (n74.ne rfl (n73.ne rfl (n72.ne rfl n53.at_)))))
        refine sv n96.ok rfl (wn _ rfl) rfl (o_ldR e97 B78 Tryz.underlying35 rfl (by kernel_rfl)) (fun an98 n98 => ?_)
        refine sv n98.ok rfl (wn _ rfl) rfl (o_ia (i := i) (s := 3) (n98.ne rfl (n96.ne rfl n94.at_)) (n98.ne rfl n96.at_) Tryz.underlying22 (by kernel_rfl) (by omega)) (fun an99 n99 => ?_)
        refine s_putE (u := xh51) (i := i) encP_ok (wn _ rfl) n99.at_ (n99.ne rfl n98.at_) (by kernel_rfl) O80 hdI29.len.symm (by omega) (fun w100 O102 gg101 => ?_)
        have G103 := Gr.grown G77 gg101 (fun k e => Nat.le_trans hB (ow_lt O80 k e))
        have B104 := B78.grown_ne gg101 l58
        have z105 := Nat.le_trans z79 gg101.size
        have F106 := gb_gb F81 gg101
        refine wpList_nil ?_
        refine th_n (hK92 _ _ ?_)
        refine wp_region_lit ?_
        have e107 := n99.ne rfl (n98.ne rfl (n96.ne rfl e95))
        refine sv n99.ok rfl (wn _ rfl) rfl (o_mv e107) (fun an108 n108 => ?_)
        refine sv n108.ok rfl (wn _ rfl) rfl (o_add (r := ((i + 1 : Nat) : Int)) n108.at_ ev_const (by omega) (by omega)) (fun an109 n109 => ?_)
        refine sv n109.ok rfl (wn _ rfl) rfl (o_as n109.at_) (fun an110 n110 => ?_)
        refine wpList_nil ?_
        refine ib_n ?_
        refine th_n (hK44 _ _ ?_)
        refine wp_region_lit ?_
        have e111 := n110.ne rfl (n109.ne rfl (n108.ne rfl (n99.ne rfl (n98.ne rfl (n96.ne rfl (n94.ne rfl (n82.ne rfl (n74.ne rfl (n73.ne rfl (n72.ne rfl (n53.ne rfl (n52.ne rfl (n50.ne rfl (n49.ne rfl e48))))))))))))))
        refine sv n110.ok rfl (wn _ rfl) rfl (o_mv e111) (fun an112 n112 => ?_)
        refine sv n112.ok rfl (wn _ rfl) rfl (o_add (r := ((j + 1 : Nat) : Int)) n112.at_ ev_const (by omega) (by omega)) (fun an113 n113 => ?_)
        refine sv n113.ok rfl (wn _ rfl) rfl (o_as n113.at_) (fun an114 n114 => ?_)
        refine wpList_nil ?_
        have e115 := n114.ne rfl (n113.ne rfl (n112.ne rfl (n110.ne rfl (n109.ne rfl (n108.ne rfl (n99.ne rfl (n98.ne rfl (n96.ne rfl (n94.ne rfl e93)))))))))
        have e116 := n114.ne rfl (n113.ne rfl (n112.ne rfl (n110.ne rfl (n109.ne rfl (n108.ne rfl (n99.ne rfl (n98.ne rfl (n96.ne rfl (n94.ne rfl (n82.ne rfl (n74.ne rfl (n73.ne rfl (n72.ne rfl e71)))))))))))))
        have e117 := n114.ne rfl (n113.ne rfl (n112.ne rfl (n110.ne rfl (n109.ne rfl (n108.ne rfl (n99.ne rfl (n98.ne rfl (n96.ne rfl (n94.ne rfl (n82.ne rfl (n74.ne rfl (n73.ne rfl (n72.ne rfl (n53.ne rfl (n52.ne rfl (n50.ne rfl (n49.ne rfl (n47.ne rfl (n42.ne rfl (n41.ne rfl (n40.ne rfl (n39.ne rfl s4I29))))))))))))))))))))))
        have e118 := n114.ne rfl (n113.ne rfl (n112.ne rfl n110.at_))
        exact th_n (hKI29 _ _ _ (by omega) ⟨i + 1, j + 1, M.set i xh51, rfl, n114.ok, G103, e115, e116, e117, e118, n114.at_, F106, O102, z105, DelAt.keep hdI29 ((hdI29.rest j (Nat.le_refl _)).symm.trans h51x) (by simpa using c83)⟩)
    · refine wp_cond_false ((n42.at_).trans (congrArg Value.bool (decide_eq_false c43))) ?_
      obtain rfl : j = List.length K := by omega
      refine wp_exit ?_
      refine th_x ?_
      refine th_x ?_
      refine ib_x ?_
      refine th_n (hK24 _ _ ?_)
      refine wp_seq_k (fun K119 hK119 => ?_)
      refine wp_region_lit ?_
      have e120 := n42.ne rfl (n41.ne rfl (n40.ne rfl (n39.ne rfl s0I29)))
      refine sv n42.ok rfl (wn _ rfl) rfl (o_mv e120) (fun an121 n121 => ?_)
      have e122 := n121.ne rfl (n42.ne rfl (n41.ne rfl (n40.ne rfl (n39.ne rfl s5I29))))
      refine sv n121.ok rfl (wn _ rfl) rfl (o_mv e122) (fun an123 n123 => ?_)
      refine sv n123.ok rfl (wn _ rfl) rfl (o_cutLt (k := i) (s := 3) (n123.ne rfl n121.at_) n123.at_ Tryz.underlying22 (by kernel_rfl) (by omega) (by omega)) (fun an124 n124 => ?_)
      refine s_clear (k := i) (z := .agg #[.slice none 0 0, .slice none 0 0, .slice none 0 0]) encP_ok (wn _ rfl) n124.at_ Tryz.underlying22 (by kernel_rfl) rfl (zero_parts) okrI29 hdI29.len.symm (by omega) (fun w125 O127 gg126 => ?_)
      have G128 := Gr.grown GI29 gg126 (fun k e => Nat.le_trans hB (ow_lt okrI29 k e))
      have z129 := Nat.le_trans zbaseI29 gg126.size
      have F130 := gb_gb fgbI29 gg126
      refine wpList_nil ?_
      refine th_n (hK119 _ _ ?_)
      refine wp_seq_k (fun K131 hK131 => ?_)
      refine wp_region_lit ?_
      have e132 := n124.ne rfl (n123.ne rfl (n121.ne rfl e120))
      refine sv n124.ok rfl (wn _ rfl) rfl (o_mv e132) (fun an133 n133 => ?_)
      have e134 := n133.ne rfl (n124.ne rfl (n123.ne rfl e122))
      refine sv n133.ok rfl (wn _ rfl) rfl (o_mv e134) (fun an135 n135 => ?_)
      refine sv n135.ok rfl (wn _ rfl) rfl (o_cut (k := i) (s := 3) (n135.ne rfl n133.at_) n135.at_ Tryz.underlying22 (by kernel_rfl) (by omega)) (fun an136 n136 => ?_)
      refine sv n136.ok rfl (wn _ rfl) rfl (o_as n136.at_) (fun an137 n137 => ?_)
      refine wpList_nil ?_
      refine th_n (hK131 _ _ ?_)
      refine wp_ret ?_
      exact ret1 n137.ok rfl (n137.at_) ⟨i, rfl, hdI29.count, by have h := O127; rw [hdI29.end_] at h; exact h, F130⟩
theorem deleteP (K : List PtX) (v : Value) (base : Nat) (f : FuncId) (caps : List Value) (p : PtX → Bool) (hf : FnOk Tryz.prog f) (hl : K.length ≤ 100000) (w0 w : World) (hG : Gr w0 w) (hB : w0.heap.size ≤ base) (hz : base ≤ w.heap.size)
    (ho : w.ownsRow base 35 3 v K.length (flatE encP K)) (hc : ∀ x ∈ K, ∀ w1, w.grownBy w1 v.ownBlock → Calls Tryz.prog f (.agg #[.slice x.fa x.fn x.fc, .slice x.va x.vn x.vc, .slice x.ma x.mn x.mc] :: caps).toArray w1 fun e w2 => e = .returned (.bool (p x)) ∧ Gr w1 w2) :
    Calls Tryz.prog 101 #[v, .func (.func f) #[] caps.toArray] w fun e w' => ∃ u, e = .returned u ∧ u.ownBlock = v.ownBlock ∧ w'.ownsRow base 35 3 u (K.filter (fun x => !p x)).length (flatE encP (K.filter (fun x => !p x))) ∧ w.grownBy w' v.ownBlock := by
  have ho' := ho
  obtain ⟨-, ⟨rfl, hn⟩ | ⟨g, cap, cur, rfl, hb, hg, hnc, hcm, hcs, ht⟩⟩ := ho'
  · obtain rfl : K = [] := List.eq_nil_of_length_eq_zero hn
    refine (deleteP0 f caps p hf w).mono ?_
    rintro e w' ⟨rfl, g⟩
    exact ⟨_, rfl, rfl, World.ownsRow_nil _ _ _ _, gb_of g⟩
  · refine (deleteP1 K g cap base f caps p hf hl hnc w0 w hG hB hz ho hc).mono ?_
    rintro e w' ⟨n, rfl, rfl, h1, h2⟩
    exact ⟨_, rfl, rfl, h1, h2⟩
end Go.Proofs.YtghjfakellaecaaGreat

/- The document's sets of dots: Size, Formed, Know. -/
set_option linter.unusedVariables false
set_option linter.unusedSimpArgs false
namespace Rm
open Go Go.RowKit Gx
/-- five integers -/
def a5 (f : Nat → Int) : Array Value := #[.int .i64 (f 0), .int .i64 (f 1), .int .i64 (f 2), .int .i64 (f 3), .int .i64 (f 4)]
def u5 (f : Nat → Int) (s : Nat) (z : Int) : Nat → Int := fun t => if t = s then z else f t
/-- a vector's first integers -/
def gv (V : List Int) (i : Nat) : Nat → Int := fun s => if s < i then V.getD s 0 else 0
theorem badM_dot {v : List Nat} {M : List (Int × Int)} {k : Nat} {d : Int × Int} (h : M[k]? = some d) (hb : dotB d = false) : badM v M k = 1 := by
  unfold badM; rw [h]; simp only; rw [if_pos hb]
end Rm
namespace Gx
open Go Go.RowKit Rm
section
variable {P : Program} {ev : Operand → Value} {d : Option Tmp} {ty : TypeId} {p : String} {af : Array Edge} {g : Option (Nat × Bool)} {w : World}
theorem o_remU {t t' : TypeId} {x y : Operand} {i j r : Nat} (hx : ev x = .int .u64 (i : Int)) (hy : ev y = .int .u64 (j : Int)) (hj : 0 < j) (hr : i % j = r) : (execOp ev (Oper.mk d (.binOp .rem t x y t') ty p af g)).run P w = .ok (.value (.int .u64 (r : Int))) w := by
  subst hr
  have h0 : ¬ (j : Int) = 0 := by omega
  have h1 : (i : Int).tmod (j : Int) = ((i % j : Nat) : Int) := by rw [Int.tmod_eq_emod_of_nonneg (by omega)]; rfl
  unfold execOp
  simp only [hx, hy, eqGuard, binOp, Op.intDiv, if_neg h0, h1, Sem.run_bind]
  rfl
theorem o_cv {s t : TypeId} {x : Operand} {k k' : IntKind} {i r : Int} (hx : ev x = .int k i) (hs : P.underlying s = some (.int k)) (ht : P.underlying t = some (.int k')) (hr : k'.wrap i = r) : (execOp ev (Oper.mk d (.convert s t x) ty p af g)).run P w = .ok (.value (.int k' r)) w := by
  subst hr
  simp [execOp, convert, hx, run_underlying hs, run_underlying ht, Conv.intToInt, go_sem]
end
end Gx
namespace Go.Proofs.YtghjfakellaecaaGreat
open Go.RowKit Rm Gx
end Go.Proofs.YtghjfakellaecaaGreat

/- Answers of the sets of dots in one form. -/
set_option linter.unusedVariables false
set_option linter.unusedSimpArgs false
namespace Rm
/-- what build answers: the error, the vector, the dots behind it -/
def frE (D : DS) : Int := if (formM D).length ≤ 60 then 0 else 2
def frV (D : DS) : List Nat := if (formM D).length ≤ 60 then formV D else []
def frM (D : DS) : List (Nat × Nat) := if (formM D).length ≤ 60 then formM D else []
end Rm
namespace Go.Proofs.YtghjfakellaecaaGreat
open Go.RowKit Rm Gx
theorem frmK.one {base : Nat} {w : World} {e : Ending} {D : DS} (h : frmK base w e D) : ∃ k, e = .returned (.tuple #[k, .int .i64 (frE D)]) ∧ KnO base w k (frV D) (frM D) := by
  obtain ⟨k, r, rfl, ⟨h1, rfl, h2⟩ | ⟨h1, rfl, h2⟩⟩ := h
  · exact ⟨k, by unfold frE; rw [if_pos h1], by unfold frV frM; rw [if_pos h1, if_pos h1]; exact h2⟩
  · have h1' : ¬ (formM D).length ≤ 60 := by omega
    exact ⟨k, by unfold frE; rw [if_neg h1'], by unfold frV frM; rw [if_neg h1', if_neg h1']; exact h2⟩
theorem KnO.form {base : Nat} {w : World} {k : Value} {v : List Nat} {m : List (Nat × Nat)} (h : KnO base w k v m) : ∃ va vc ma mc, k = .agg #[.slice va (ints v).length vc, .slice ma (pairs m).length mc] := by
  obtain ⟨vv, mv, rfl, h1, h2⟩ := h
  obtain ⟨a, c, rfl, -⟩ := ow_form h1
  obtain ⟨a', c', rfl, -⟩ := ow_form h2
  exact ⟨a, c, a', c', by rw [ints_len, pairs_len]⟩
theorem knR_nil (w : World) : KnR w (.agg #[.slice none 0 0, .slice none 0 0]) [] [] := ⟨_, _, rfl, R1.nil w, Rd2.nil w, ⟨rfl, by simp [flat], .inl ⟨rfl, rfl⟩⟩⟩
theorem chkA_1 {V : List Int} {M : List (Int × Int)} {x y : Int} (h : chkK V M = 0) (hd : dotB (x, y) = false) : chkA V M (x, y) = 1 := by unfold chkA; rw [if_neg (by simp [h]), hd]; rfl
end Go.Proofs.YtghjfakellaecaaGreat

/- Equal words; small sets that are written out. -/
set_option linter.unusedVariables false
set_option linter.unusedSimpArgs false
namespace Rm
open Go Go.RowKit Gx
end Rm
namespace Go.Proofs.YtghjfakellaecaaGreat
open Go.RowKit Rm Gx
section
variable {ev : Operand → Value} {d : Option Tmp} {ty : TypeId} {p : String} {af : Array Edge} {g : Option (Nat × Bool)} {w : World}
end
theorem r1_bk {w : World} {b : Nat} {V : List Int} {cs : Array Value} {t : TypeId} (h : Bk w b cs t) (hc : cs = (V.map (Value.int .i64)).toArray) : R1 w (.slice (some ⟨b, 0, none⟩) V.length V.length) V :=
  ⟨_, _, rfl, Nat.le_refl _, fun _ => ⟨b, 0, rfl, h.lt, fun i x hx => by
    rw [Nat.zero_add]
    exact h.cell i (by subst hc; simp [hx])⟩⟩
theorem knR_vec1 {w : World} {b : Nat} {x : Int} {t : TypeId} (h : Bk w b #[.int .i64 x] t) : KnR w (.agg #[.slice (some ⟨b, 0, none⟩) 1 1, .slice none 0 0]) [x] [] :=
  ⟨_, _, rfl, r1_bk (V := [x]) h rfl, Rd2.nil w, ⟨rfl, by simp [flat], .inl ⟨rfl, rfl⟩⟩⟩
end Go.Proofs.YtghjfakellaecaaGreat

/- reedkeep.Within, set, knowBegun. -/
set_option linter.unusedVariables false
set_option linter.unusedSimpArgs false
namespace Rm
open Go Go.RowKit Gx
/-- what Within makes of an integer -/
def wi (k : Int) (n : Nat) : Nat := (k % 18446744073709551616).toNat % n
theorem wi_lt (k : Int) (n : Nat) (h : 0 < n) : wi k n < n := Nat.mod_lt _ h
theorem kwrap64 (k : Int) : IntKind.u64.wrap k = (((k % 18446744073709551616).toNat : Nat) : Int) := by
  rw [IntKind.wrap_u64]; omega
/-- slices of integers, in a slice -/
def RdLL (w : World) (v : Value) (L : List (List Int)) : Prop :=
  ∃ a c, v = .slice a L.length c ∧ L.length ≤ c ∧ (L ≠ [] → ∃ b off, a = some ⟨b, off, none⟩ ∧ b < w.heap.size ∧ ∀ i x, L[i]? = some x → ∃ ua uc, w.cell? ⟨b, off + i * 1, none⟩ = some (.slice ua x.length uc) ∧ RdI1 w ua x)
theorem RdI1.gr {w w' : World} {a : Option Addr} {V : List Int} (h : RdI1 w a V) (g : Gr w w') : RdI1 w' a V := fun hn => by
  obtain ⟨b, off, h1, h2, h3⟩ := h hn
  exact ⟨b, off, h1, Nat.lt_of_lt_of_le h2 g.le, fun i x hx => (g.cells.1 b _ h2).trans (h3 i x hx)⟩
theorem RdLL.gr {w w' : World} {v : Value} {L : List (List Int)} (h : RdLL w v L) (g : Gr w w') : RdLL w' v L := by
  obtain ⟨a, c, e, hc, h⟩ := h
  refine ⟨a, c, e, hc, fun hn => ?_⟩
  obtain ⟨b, off, h1, h2, h3⟩ := h hn
  refine ⟨b, off, h1, Nat.lt_of_lt_of_le h2 g.le, fun i x hx => ?_⟩
  obtain ⟨ua, uc, q1, q2⟩ := h3 i x hx
  exact ⟨ua, uc, (g.cells.1 b _ h2).trans q1, q2.gr g⟩
/-- the dot that two integers name -/
def dotOf (c : List Int) : Option (Nat × Nat) := match c with
  | x :: y :: _ => some (wi x 5, 1 + wi y 12)
  | _ => none
def setN (L : List (List Int)) : List (Nat × Nat) := (L.take 40).filterMap dotOf
def setD (L : List (List Int)) : DS := fun s c => (setN L).contains (s, c)
theorem dotOf_in {c : List Int} {d : Nat × Nat} (h : dotOf c = some d) : d.1 < 5 ∧ 1 ≤ d.2 ∧ d.2 ≤ 12 := by
  match c, h with
  | x :: y :: _, h =>
    simp [dotOf] at h
    subst h
    have h1 := wi_lt x 5 (by omega)
    have h2 := wi_lt y 12 (by omega)
    simp only
    omega
theorem setN_in {L : List (List Int)} {d : Nat × Nat} (h : d ∈ setN L) : d.1 < 5 ∧ 1 ≤ d.2 ∧ d.2 ≤ 12 := by
  obtain ⟨c, _, hc⟩ := List.mem_filterMap.1 h
  exact dotOf_in hc
theorem setD_small (L : List (List Int)) : ∀ s c, setD L s c = true → s < 5 ∧ 1 ≤ c ∧ c ≤ 12 := fun s c h => by
  have : (s, c) ∈ setN L := by simpa [setD] using h
  exact setN_in this
theorem dotOf_two {c : List Int} {x y : Int} (h0 : c[0]? = some x) (h1 : c[1]? = some y) : dotOf c = some (wi x 5, 1 + wi y 12) := by
  match c, h0, h1 with
  | a :: b :: _, h0, h1 => simp at h0 h1; subst h0 h1; rfl
theorem dotOf_none {c : List Int} (h : ¬ 1 < c.length) : dotOf c = none := by
  match c with
  | [] => rfl
  | [a] => rfl
  | a :: b :: _ => simp at h
/-- a set whose dots have small counts has few behind its vector -/
theorem small_form {D : DS} (h : ∀ s c, D s c = true → s < 5 ∧ 1 ≤ c ∧ c ≤ 12) : (formM D).length ≤ 60 := by
  have key : ∀ s, (restD D s).length ≤ 11 := by
    intro s
    unfold restD
    rw [List.length_map]
    have : ((List.range 1001).filter fun c => decide (run D s + 2 ≤ c) && D s c).length ≤ ((List.range 1001).filter fun c => decide (2 ≤ c ∧ c ≤ 12)).length := by
      rw [← List.countP_eq_length_filter, ← List.countP_eq_length_filter]
      apply List.countP_mono_left
      intro c _ hc
      simp only [Bool.and_eq_true, decide_eq_true_eq] at hc ⊢
      have := h s c hc.2
      omega
    refine Nat.le_trans this ?_
    decide +kernel
  have k0 := key 0
  have k1 := key 1
  have k2 := key 2
  have k3 := key 3
  have k4 := key 4
  show ((List.range 5).flatMap (restD D)).length ≤ 60
  have e : (List.range 5).flatMap (restD D) = restD D 0 ++ restD D 1 ++ restD D 2 ++ restD D 3 ++ restD D 4 := by
    rw [show List.range 5 = [0, 1, 2, 3, 4] from rfl]
    simp [List.flatMap_cons, List.append_assoc]
  rw [e]
  simp only [List.length_append]
  omega
theorem set_step {X : Nat → Nat} {L : List (List Int)} {i : Nat} {c : List Int} {x y : Int} (hc : L[i]? = some c) (h0 : c[0]? = some x) (h1 : c[1]? = some y)
    (h : ∀ s q, s < 5 → q < 1024 → dsX X s q = ((L.take i).filterMap dotOf).contains (s, q)) :
    ∀ s q, s < 5 → q < 1024 → dsX (withX X (wi x 5) (1 + wi y 12)) s q = ((L.take (i + 1)).filterMap dotOf).contains (s, q) := by
  intro s q hs hq
  have h12 := wi_lt y 12 (by omega)
  rw [dsX_with X _ _ s q (by omega) hq, h s q hs hq, List.take_add_one, hc, List.filterMap_append]
  simp [dotOf_two h0 h1]
theorem set_skip {X : Nat → Nat} {L : List (List Int)} {i : Nat} {c : List Int} (hc : L[i]? = some c) (hn : ¬ 1 < c.length)
    (h : ∀ s q, s < 5 → q < 1024 → dsX X s q = ((L.take i).filterMap dotOf).contains (s, q)) :
    ∀ s q, s < 5 → q < 1024 → dsX X s q = ((L.take (i + 1)).filterMap dotOf).contains (s, q) := by
  intro s q hs hq
  rw [h s q hs hq, List.take_add_one, hc, List.filterMap_append]
  simp [dotOf_none hn]
theorem take_min (L : List (List Int)) {i : Nat} (h : i = min L.length 40) : L.take i = L.take 40 := by
  subst h
  rcases Nat.le_total L.length 40 with q | q
  · rw [Nat.min_eq_left q, List.take_of_length_le (Nat.le_refl _), List.take_of_length_le q]
  · rw [Nat.min_eq_right q]
end Rm
namespace Go.Proofs.YtghjfakellaecaaGreat
open Go.RowKit Rm Gx
set_option maxHeartbeats 8000000 in
set_option maxRecDepth 100000 in
theorem kwithin_any (k : Int) (n : Nat) (hn : 0 < n) (hn2 : n < 1000000) (w : World) :
    Calls Tryz.prog 110 #[.int .i64 (k), .int .i64 (n : Int)] w fun e w' => e = .returned (.int .i64 ((wi k n : Nat) : Int)) ∧ Gr w w' := by
  refine enter (N := 11) Tryz.func110 rfl rfl rfl (fun a0 ok0 h0 => ?_)
  have e0_0 : a0.eval (.tmp 0) = .int .i64 (k) := h0 0 _ rfl
  have e0_1 : a0.eval (.tmp 1) = .int .i64 (n : Int) := h0 1 _ rfl
  clear h0
  have G0 := Gr.refl w
  refine wp_seq_k (fun K1 hK1 => ?_)
  refine wp_region_lit ?_
  refine sv ok0 rfl (wn _ rfl) rfl (o_as ev_const) (fun an2 n2 => ?_)
  refine wpList_nil ?_
  refine th_n (hK1 _ _ ?_)
  refine wp_seq_k (fun K3 hK3 => ?_)
  refine wp_region_lit ?_
  refine sv n2.ok rfl (wn _ rfl) rfl (o_mv (n2.ne rfl e0_0)) (fun an4 n4 => ?_)
  refine sv n4.ok rfl (wn _ rfl) rfl (o_cv n4.at_ Tryz.underlying3 Tryz.underlying46 (kwrap64 k)) (fun an5 n5 => ?_)
  have e6 := n5.ne rfl (n4.ne rfl (n2.ne rfl e0_1))
  refine sv n5.ok rfl (wn _ rfl) rfl (o_mv e6) (fun an7 n7 => ?_)
  refine sv n7.ok rfl (wn _ rfl) rfl (o_cv n7.at_ Tryz.underlying3 Tryz.underlying46 (IntWalk.u64_in _ (by omega))) (fun an8 n8 => ?_)
  have hlt := wi_lt k n hn
  refine sv n8.ok rfl (wn _ rfl) rfl (o_remU (i := (k % 18446744073709551616).toNat) (j := n) (r := wi k n) (n8.ne rfl (n7.ne rfl n5.at_)) n8.at_ hn rfl) (fun an9 n9 => ?_)
  refine sv n9.ok rfl (wn _ rfl) rfl (o_cv n9.at_ Tryz.underlying46 Tryz.underlying3 (IntWalk.i64_in _ (by omega))) (fun an10 n10 => ?_)
  refine sv n10.ok rfl (wn _ rfl) rfl (o_as n10.at_) (fun an11 n11 => ?_)
  refine wpList_nil ?_
  refine th_n (hK3 _ _ ?_)
  refine wp_ret ?_
  exact ret1 n11.ok rfl (n11.at_) ⟨rfl, G0⟩
set_option maxHeartbeats 8000000 in
set_option maxRecDepth 100000 in
theorem set_k (va : Option Addr) (vc : Nat) (L : List (List Int)) (hvc : L.length ≤ vc) (w : World) (hL : L ≠ [] → ∃ b off, va = some ⟨b, off, none⟩ ∧ b < w.heap.size ∧ ∀ i x, L[i]? = some x → ∃ ua uc, w.cell? ⟨b, off + i * 1, none⟩ = some (.slice ua x.length uc) ∧ RdI1 w ua x) :
    Calls Tryz.prog 60 #[.slice va L.length vc] w fun e w' => ∃ k, e = .returned k ∧ KnO w.heap.size w' k (formV (setD L)) (formM (setD L)) ∧ Gr w w' := by
  refine enter (N := 40) Tryz.func60 rfl rfl rfl (fun a0 ok0 h0 => ?_)
  have e0_0 : a0.eval (.tmp 0) = .slice va L.length vc := h0 0 _ rfl
  clear h0
  have G0 := Gr.refl w
  refine wp_seq_k (fun K1 hK1 => ?_)
  refine wp_region_lit ?_
  refine sal (cs := #[.slice none 0 0, .slice none 0 0]) ok0 rfl (wn _ rfl) rfl (o_al (z := .agg #[.slice none 0 0, .slice none 0 0]) (by kernel_rfl)) (fun an2 w4 b3 W5 n2 => ?_)
  have l6 : w.heap.size ≤ b3 := by rw [W5.eq]; exact G0.size
  have G7 := G0.trans W5.gr
  refine wpList_nil ?_
  refine th_n (hK1 _ _ ?_)
  refine wp_seq_k (fun K8 hK8 => ?_)
  refine wp_region_lit ?_
  refine sal (cs := wArr (fun _ => 0)) n2.ok rfl (wn _ rfl) rfl (o_al (z := .agg (wArr (fun _ => 0))) dots_zero) (fun an9 w11 b10 W12 n9 => ?_)
  have l13 : b3 < b10 := by rw [W12.eq]; exact W5.bk.lt
  have l14 : w.heap.size ≤ b10 := by rw [W12.eq]; exact G7.size
  have G15 := G7.trans W12.gr
  have B16 := W5.bk.gr W12.gr
  refine wpList_nil ?_
  refine th_n (hK8 _ _ ?_)
  refine wp_seq_k (fun K17 hK17 => ?_)
  refine wp_seq_k (fun K18 hK18 => ?_)
  refine wp_region_lit ?_
  refine sv n9.ok rfl (wn _ rfl) rfl (o_mv (n9.ne rfl (n2.ne rfl e0_0))) (fun an19 n19 => ?_)
  have e20 := n19.ne rfl (n9.ne rfl (n2.ne rfl e0_0))
  refine sv n19.ok rfl (wn _ rfl) rfl (o_mv e20) (fun an21 n21 => ?_)
  refine sv n21.ok rfl (wn _ rfl) rfl (o_len n21.at_ Tryz.underlying113) (fun an22 n22 => ?_)
  refine sv n22.ok rfl (wn _ rfl) rfl (o_min n22.at_ ev_const (nmin_int _ _)) (fun an23 n23 => ?_)
  have e24 := n23.ne rfl (n22.ne rfl (n21.ne rfl n19.at_))
  refine sv n23.ok rfl (wn _ rfl) rfl (o_cut (k := min (L.length) (40)) (s := 1) e24 n23.at_ Tryz.underlying113 (by kernel_rfl) (by omega)) (fun an25 n25 => ?_)
  refine sv n25.ok rfl (wn _ rfl) rfl (o_len n25.at_ Tryz.underlying113) (fun an26 n26 => ?_)
  refine sv n26.ok rfl (wn _ rfl) rfl (o_mv ev_const) (fun an27 n27 => ?_)
  refine wpList_nil ?_
  refine th_n (hK18 _ _ ?_)
  refine wp_block ?_
  have e29 := n27.ne rfl (n26.ne rfl (n25.ne rfl (n23.ne rfl (n22.ne rfl (n21.ne rfl (n19.ne rfl (n9.ne rfl n2.at_)))))))
  have e30 := n27.ne rfl (n26.ne rfl (n25.ne rfl (n23.ne rfl (n22.ne rfl (n21.ne rfl (n19.ne rfl n9.at_))))))
  refine lp (fun (nL : Nat) (aL : Act) (wL : World) => ∃ i : Nat, ∃ X : Nat → Nat, nL = min L.length 40 - i ∧ Ok 40 aL ∧ Gr w wL ∧ (aL.eval (.tmp 2) = .pointer (some ⟨b3, 0, none⟩)) ∧ (aL.eval (.tmp 3) = .pointer (some ⟨b10, 0, none⟩)) ∧ (aL.eval (.tmp 12) = .slice va (min (L.length) (40)) vc) ∧ (aL.eval (.tmp 13) = .int .i64 ((min (L.length) (40) : Nat) : Int)) ∧ (aL.eval (.tmp 14) = .int .i64 (i : Int)) ∧ (Bk wL b3 #[.slice none 0 0, .slice none 0 0] 33) ∧ (Bk wL b10 (wArr X) 49) ∧ (i ≤ min L.length 40) ∧ (OkX X) ∧ (∀ s q, s < 5 → q < 1024 → dsX X s q = ((L.take i).filterMap dotOf).contains (s, q))) _ ⟨0, (fun _ => 0), rfl, n27.ok, G15, e29, e30, (n27.ne rfl (n26.ne rfl n25.at_)), (n27.ne rfl n26.at_), n27.at_, B16, W12.bk, by omega, OkX.zero, fun s q h1 h2 => by rw [dsX_zero]; simp⟩ ?_
  rintro m31 aI28 w33 ⟨i, X, hmI28, okI28, GI28, s2I28, s3I28, s12I28, s13I28, s14I28, kb3I28, kb10I28, hiI28, hXI28, hDI28⟩ KI28 hKI28
  refine wp_seq_k (fun K34 hK34 => ?_)
  refine wp_region_lit ?_
  refine sv okI28 rfl (wn _ rfl) rfl (o_ltI s14I28 s13I28) (fun an35 n35 => ?_)
  refine wpList_nil ?_
  refine th_n (hK34 _ _ ?_)
  refine wp_seq_k (fun K36 hK36 => ?_)
  by_cases c37 : (i : Int) < ((min (L.length) (40) : Nat) : Int)
  · refine wp_cond_true ((n35.at_).trans (congrArg Value.bool (decide_eq_true c37))) ?_
    refine wp_skip ?_
    refine th_n (hK36 _ _ ?_)
    refine wp_seq_k (fun K38 hK38 => ?_)
    refine wp_block ?_
    refine wp_seq_k (fun K39 hK39 => ?_)
    refine wp_region_lit ?_
    have h40l : i < List.length L := by omega
    obtain ⟨bh40, fh40, h40a, h40b, h40c⟩ := hL (ne_nil_of_lt h40l)
    obtain ⟨xh40, h40x⟩ : ∃ x, L[i]? = some x := ⟨_, List.getElem?_eq_getElem h40l⟩
    obtain ⟨uh40, vh40, h40d, h40e⟩ := h40c _ _ h40x
    refine sv n35.ok rfl (wn _ rfl) rfl (o_iaV (i := i) (s := 1) h40a (n35.ne rfl s12I28) (n35.ne rfl s14I28) Tryz.underlying113 (by kernel_rfl) (by omega)) (fun an41 n41 => ?_)
    refine sv n41.ok rfl (wn _ rfl) rfl (o_ld n41.at_ (Tryz.isAgg30 _) ((Below.cell GI28 h40b).trans h40d)) (fun an42 n42 => ?_)
    refine sv n42.ok rfl (wn _ rfl) rfl (o_as n42.at_) (fun an43 n43 => ?_)
    refine wpList_nil ?_
    refine th_n (hK39 _ _ ?_)
    refine wp_seq_k (fun K44 hK44 => ?_)
    refine wp_region_lit ?_
    refine sv n43.ok rfl (wn _ rfl) rfl (o_mv n43.at_) (fun an45 n45 => ?_)
    refine sv n45.ok rfl (wn _ rfl) rfl (o_len n45.at_ Tryz.underlying30) (fun an46 n46 => ?_)
    refine sv n46.ok rfl (wn _ rfl) rfl (o_gtI n46.at_ ev_const) (fun an47 n47 => ?_)
    refine wpList_nil ?_
    refine th_n (hK44 _ _ ?_)
    by_cases c48 : (1 : Int) < ((xh40.length : Nat) : Int)
    · refine wp_cond_true ((n47.at_).trans (congrArg Value.bool (decide_eq_true c48))) ?_
      refine reg_start (N := 40) (m := 12) (by kernel_rfl) (fun R490 => ?_)
      have e50 := n47.ne rfl (n46.ne rfl (n45.ne rfl (n43.ne rfl (n42.ne rfl (n41.ne rfl (n35.ne rfl s3I28))))))
      have R491 := R490.snoc (n' := 1) rfl (fun vJ _ => vJ = .agg (wArr X)) rfl (fun _ _ _ _ h => h) (fun aS wS pS => by
          exact Does.val (wn _ rfl) (o_ldR ((pS.old 3 rfl).trans e50) (Bk.gr kb10I28 (gr_drew pS.gr)) Tryz.underlying49 rfl (dots_sz X)) (Gr.refl _) rfl rfl)
      have e51 := n47.ne rfl (n46.ne rfl (n45.ne rfl n43.at_))
      have R492 := R491.snoc (n' := 2) rfl (fun vJ _ => vJ = .slice uh40 xh40.length vh40) rfl (fun _ _ _ _ h => h) (fun aS wS pS => by
          exact Does.val (wn _ rfl) (o_mv ((pS.old 5 rfl).trans e51)) (Gr.refl _) rfl rfl)
      have h52l : 0 < List.length xh40 := by omega
      obtain ⟨bh52, fh52, h52a, h52b, h52c⟩ := h40e (ne_nil_of_lt h52l)
      obtain ⟨xh52, h52x⟩ : ∃ x, xh40[0]? = some x := ⟨_, List.getElem?_eq_getElem h52l⟩
      have R493 := R492.snoc (n' := 3) rfl (fun vJ _ => vJ = .pointer (some ⟨bh52, fh52 + 0 * 1, none⟩)) rfl (fun _ _ _ _ h => h) (fun aS wS pS => by
          have eR49_1 : aS.eval (.tmp 22) = .slice uh40 xh40.length vh40 := pS.pre 1 rfl
          exact Does.val (wn _ rfl) (o_iaV (i := 0) (s := 1) h52a (eR49_1) ev_const Tryz.underlying30 (by kernel_rfl) h52l) (Gr.refl _) rfl rfl)
      have R494 := R493.snoc (n' := 4) rfl (fun vJ _ => vJ = .int .i64 (xh52)) rfl (fun _ _ _ _ h => h) (fun aS wS pS => by
          have eR49_2 : aS.eval (.tmp 23) = .pointer (some ⟨bh52, fh52 + 0 * 1, none⟩) := pS.pre 2 rfl
          exact Does.val (wn _ rfl) (o_ld (eR49_2) (Tryz.isAgg3 _) ((Below.cell (GI28.trans (gr_drew pS.gr)) h52b).trans (h52c _ _ h52x))) (Gr.refl _) rfl rfl)
      have hw53 := wi_lt xh52 5 (by omega)
      have R495 := R494.snoc (n' := 5) rfl (fun vJ _ => vJ = .int .i64 ((wi xh52 5 : Nat) : Int)) rfl (fun _ _ _ _ h => h) (fun aS wS pS => by
          have eR49_3 : aS.eval (.tmp 24) = .int .i64 (xh52) := pS.pre 3 rfl
          exact Does.call (wn _ rfl) (o_f2 Tryz.func110 rfl rfl rfl (eR49_3) ev_const) (kwithin_any xh52 5 (by omega) (by omega) wS) (by rintro _ w2 ⟨rfl, g⟩; exact ⟨_, rfl, g, rfl⟩) rfl)
      have R496 := R495.snoc (n' := 6) rfl (fun vJ _ => vJ = .slice uh40 xh40.length vh40) rfl (fun _ _ _ _ h => h) (fun aS wS pS => by
          exact Does.val (wn _ rfl) (o_mv ((pS.old 5 rfl).trans e51)) (Gr.refl _) rfl rfl)
      have h54l : 1 < List.length xh40 := by omega
      obtain ⟨bh54, fh54, h54a, h54b, h54c⟩ := h40e (ne_nil_of_lt h54l)
      obtain ⟨xh54, h54x⟩ : ∃ x, xh40[1]? = some x := ⟨_, List.getElem?_eq_getElem h54l⟩
      have R497 := R496.snoc (n' := 7) rfl (fun vJ _ => vJ = .pointer (some ⟨bh54, fh54 + 1 * 1, none⟩)) rfl (fun _ _ _ _ h => h) (fun aS wS pS => by
          have eR49_5 : aS.eval (.tmp 26) = .slice uh40 xh40.length vh40 := pS.pre 5 rfl
          exact Does.val (wn _ rfl) (o_iaV (i := 1) (s := 1) h54a (eR49_5) ev_const Tryz.underlying30 (by kernel_rfl) h54l) (Gr.refl _) rfl rfl)
      have R498 := R497.snoc (n' := 8) rfl (fun vJ _ => vJ = .int .i64 (xh54)) rfl (fun _ _ _ _ h => h) (fun aS wS pS => by
          have eR49_6 : aS.eval (.tmp 27) = .pointer (some ⟨bh54, fh54 + 1 * 1, none⟩) := pS.pre 6 rfl
          exact Does.val (wn _ rfl) (o_ld (eR49_6) (Tryz.isAgg3 _) ((Below.cell (GI28.trans (gr_drew pS.gr)) h54b).trans (h54c _ _ h54x))) (Gr.refl _) rfl rfl)
      have hw55 := wi_lt xh54 12 (by omega)
      have R499 := R498.snoc (n' := 9) rfl (fun vJ _ => vJ = .int .i64 ((wi xh54 12 : Nat) : Int)) rfl (fun _ _ _ _ h => h) (fun aS wS pS => by
          have eR49_7 : aS.eval (.tmp 28) = .int .i64 (xh54) := pS.pre 7 rfl
          exact Does.call (wn _ rfl) (o_f2 Tryz.func110 rfl rfl rfl (eR49_7) ev_const) (kwithin_any xh54 12 (by omega) (by omega) wS) (by rintro _ w2 ⟨rfl, g⟩; exact ⟨_, rfl, g, rfl⟩) rfl)
      have R4910 := R499.snoc (n' := 10) rfl (fun vJ _ => vJ = .int .i64 ((1 + (wi xh54 12) : Nat) : Int)) rfl (fun _ _ _ _ h => h) (fun aS wS pS => by
          have eR49_8 : aS.eval (.tmp 29) = .int .i64 ((wi xh54 12 : Nat) : Int) := pS.pre 8 rfl
          exact Does.val (wn _ rfl) (o_add (r := ((1 + (wi xh54 12) : Nat) : Int)) ev_const (eR49_8) (by omega) (by omega)) (Gr.refl _) rfl rfl)
      have R4911 := R4910.snoc (n' := 11) rfl (fun vJ _ => vJ = .agg #[.int .i64 ((wi xh52 5 : Nat) : Int), .int .i64 ((1 + (wi xh54 12) : Nat) : Int)]) rfl (fun _ _ _ _ h => h) (fun aS wS pS => by
          have eR49_4 : aS.eval (.tmp 25) = .int .i64 ((wi xh52 5 : Nat) : Int) := pS.pre 4 rfl
          have eR49_9 : aS.eval (.tmp 30) = .int .i64 ((1 + (wi xh54 12) : Nat) : Int) := pS.pre 9 rfl
          exact Does.val (wn _ rfl) (o_bd (cells := #[.int .i64 ((wi xh52 5 : Nat) : Int), .int .i64 ((1 + (wi xh54 12) : Nat) : Int)]) (vs := [(0, .int .i64 ((wi xh52 5 : Nat) : Int)), (1, .int .i64 ((1 + (wi xh54 12) : Nat) : Int))]) (by simp [(eR49_4), (eR49_9), ev_const]) (by kernel_rfl)) (Gr.refl _) rfl rfl)
      have R4912 := R4911.snoc (n' := 12) rfl (fun vJ _ => vJ = .agg (wArr (withX X (wi xh52 5) (1 + (wi xh54 12))))) rfl (fun _ _ _ _ h => h) (fun aS wS pS => by
          have eR49_0 : aS.eval (.tmp 21) = .agg (wArr X) := pS.pre 0 rfl
          have eR49_10 : aS.eval (.tmp 31) = .agg #[.int .i64 ((wi xh52 5 : Nat) : Int), .int .i64 ((1 + (wi xh54 12) : Nat) : Int)] := pS.pre 10 rfl
          exact Does.call (wn _ rfl) (o_f2 Tryz.func107 rfl rfl rfl (eR49_0) (eR49_10)) (rwith_any X (wi xh52 5) (1 + (wi xh54 12)) wS hXI28 (wi_lt _ 5 (by omega)) (by have := wi_lt xh54 12 (by omega); omega)) (by rintro _ w2 ⟨rfl, g⟩; exact ⟨_, rfl, g, rfl⟩) rfl)
      refine R4912.run (k := 1) (L := #[true, true, true, true, true, true, true, true, true, true, true, true, false]) (by kernel_rfl) (by kernel_rfl) (by kernel_rfl) n47.ok (by kernel_rfl) (by kernel_rfl) (fun ap57 w58 p57 => ?_)
      have g59 := gr_drew p57.gr
      have G60 := GI28.trans g59
      have B61 := kb3I28.gr g59
      have B62 := kb10I28.gr g59
      have ep57_11 : ap57.eval (.tmp 32) = .agg (wArr (withX X (wi xh52 5) (1 + (wi xh54 12)))) := p57.js 11 rfl
      refine t_stR (i := 12) (by kernel_rfl) rfl rfl (wn _ rfl) (o_stR ((p57.old 3 rfl).trans e50) ep57_11 B62 (dots_sz (withX X (wi xh52 5) (1 + (wi xh54 12)))) (by rw [wArr_size, wArr_size]) (wArr_one (withX X (wi xh52 5) (1 + (wi xh54 12))))) B62 (fun w63 u64 u64b => ?_)
      have G65 : Gr w w63 := Below.upd G60 l14 u64
      have B66 := B61.upd u64 (Nat.ne_of_lt l13)
      refine wpAny_done (by kernel_rfl) ?_ _
      refine ib_n ?_
      refine th_n (hK38 _ _ ?_)
      refine wp_region_lit ?_
      have e67 := (p57.old 14 rfl).trans (n47.ne rfl (n46.ne rfl (n45.ne rfl (n43.ne rfl (n42.ne rfl (n41.ne rfl (n35.ne rfl s14I28)))))))
      refine sv p57.ok rfl (wn _ rfl) rfl (o_add (r := ((i + 1 : Nat) : Int)) e67 ev_const (by omega) (by omega)) (fun an68 n68 => ?_)
      refine sv n68.ok rfl (wn _ rfl) rfl (o_mv n68.at_) (fun an69 n69 => ?_)
      refine wpList_nil ?_
      have e70 := n69.ne rfl (n68.ne rfl ((p57.old 2 rfl).trans (n47.ne rfl (n46.ne rfl (n45.ne rfl (n43.ne rfl (n42.ne rfl (n41.ne rfl (n35.ne rfl s2I28)))))))))
      have e71 := n69.ne rfl (n68.ne rfl ((p57.old 3 rfl).trans e50))
      have e72 := n69.ne rfl (n68.ne rfl ((p57.old 12 rfl).trans (n47.ne rfl (n46.ne rfl (n45.ne rfl (n43.ne rfl (n42.ne rfl (n41.ne rfl (n35.ne rfl s12I28)))))))))
      have e73 := n69.ne rfl (n68.ne rfl ((p57.old 13 rfl).trans (n47.ne rfl (n46.ne rfl (n45.ne rfl (n43.ne rfl (n42.ne rfl (n41.ne rfl (n35.ne rfl s13I28)))))))))
      exact th_n (hKI28 _ _ _ (by omega) ⟨i + 1, withX X (wi xh52 5) (1 + wi xh54 12), rfl, n69.ok, G65, e70, e71, e72, e73, n69.at_, B66, u64b, by omega, hXI28.with _ _, set_step h40x h52x h54x hDI28⟩)
    · refine wp_cond_false ((n47.at_).trans (congrArg Value.bool (decide_eq_false c48))) ?_
      refine wp_skip ?_
      refine ib_n ?_
      refine th_n (hK38 _ _ ?_)
      refine wp_region_lit ?_
      have e74 := n47.ne rfl (n46.ne rfl (n45.ne rfl (n43.ne rfl (n42.ne rfl (n41.ne rfl (n35.ne rfl s14I28))))))
      refine sv n47.ok rfl (wn _ rfl) rfl (o_add (r := ((i + 1 : Nat) : Int)) e74 ev_const (by omega) (by omega)) (fun an75 n75 => ?_)
      refine sv n75.ok rfl (wn _ rfl) rfl (o_mv n75.at_) (fun an76 n76 => ?_)
      refine wpList_nil ?_
      have e77 := n76.ne rfl (n75.ne rfl (n47.ne rfl (n46.ne rfl (n45.ne rfl (n43.ne rfl (n42.ne rfl (n41.ne rfl (n35.ne rfl s2I28))))))))
      have e78 := n76.ne rfl (n75.ne rfl (n47.ne rfl (n46.ne rfl (n45.ne rfl (n43.ne rfl (n42.ne rfl (n41.ne rfl (n35.ne rfl s3I28))))))))
      have e79 := n76.ne rfl (n75.ne rfl (n47.ne rfl (n46.ne rfl (n45.ne rfl (n43.ne rfl (n42.ne rfl (n41.ne rfl (n35.ne rfl s12I28))))))))
      have e80 := n76.ne rfl (n75.ne rfl (n47.ne rfl (n46.ne rfl (n45.ne rfl (n43.ne rfl (n42.ne rfl (n41.ne rfl (n35.ne rfl s13I28))))))))
      exact th_n (hKI28 _ _ _ (by omega) ⟨i + 1, X, rfl, n76.ok, GI28, e77, e78, e79, e80, n76.at_, kb3I28, kb10I28, by omega, hXI28, set_skip h40x (by omega) hDI28⟩)
  · refine wp_cond_false ((n35.at_).trans (congrArg Value.bool (decide_eq_false c37))) ?_
    have hE : EqD (dsX X) (setD L) := fun s c hi => by
      rw [hDI28 s c hi.1 (by have := hi.2.2; omega), take_min L (i := i) (by omega)]; rfl
    have hfc := form_congr hE
    refine wp_exit ?_
    refine th_x ?_
    refine th_x ?_
    refine ib_x ?_
    refine th_n (hK17 _ _ ?_)
    refine wp_seq_k (fun K81 hK81 => ?_)
    refine wp_region_lit ?_
    refine sv n35.ok rfl (wn _ rfl) rfl (o_ldR (n35.ne rfl s3I28) kb10I28 Tryz.underlying49 rfl (dots_sz X)) (fun an82 n82 => ?_)
    obtain ⟨h1, z83⟩ : ∃ n, n = w33.heap.size := ⟨_, rfl⟩
    have l84 : b3 < h1 := by rw [z83]; exact kb3I28.lt
    have l85 : b10 < h1 := by rw [z83]; exact kb10I28.lt
    have l86 : w.heap.size ≤ h1 := by rw [z83]; exact GI28.size
    have z87 : h1 ≤ w33.heap.size := Nat.le_of_eq z83
    refine sc n82.ok rfl (wn _ rfl) rfl (o_f1 Tryz.func52 rfl rfl rfl n82.at_) (rform_any X hXI28 w33) ?_
    rintro _ w89 ⟨k, rfl, hk, g90⟩
    rw [hfc.1, hfc.2] at hk
    obtain ⟨kvf, kmf, rfl, hVf, hMf⟩ := hk
    obtain ⟨vaf, vcf, rfl, -⟩ := ow_form hVf
    obtain ⟨maf, mcf, rfl, -⟩ := ow_form hMf
    have oV := own_less hVf z87
    have oM := own_less hMf z87
    refine ⟨_, rfl, fun an88 n88 => ?_⟩
    have G91 := GI28.trans g90
    have B92 := kb3I28.gr g90
    have B93 := kb10I28.gr g90
    have z94 := Nat.le_trans z87 g90.size
    refine sv n88.ok rfl (wn _ rfl) rfl (o_mv n88.at_) (fun an95 n95 => ?_)
    refine sv n95.ok rfl (wn _ rfl) rfl (o_ex n95.at_ rfl) (fun an96 n96 => ?_)
    refine sv n96.ok rfl (wn _ rfl) rfl (o_ex (n96.ne rfl n95.at_) rfl) (fun an97 n97 => ?_)
    refine sal (cs := #[.slice none 0 0, .slice none 0 0]) n97.ok rfl (wn _ rfl) rfl (o_al (z := .agg #[.slice none 0 0, .slice none 0 0]) (by kernel_rfl)) (fun an98 w100 b99 W101 n98 => ?_)
    have l102 : b3 < b99 := by rw [W101.eq]; exact B92.lt
    have l103 : b10 < b99 := by rw [W101.eq]; exact B93.lt
    have l104 : w.heap.size ≤ b99 := by rw [W101.eq]; exact G91.size
    have l105 : ∀ k, Value.ownBlock (.slice vaf ((formV (setD L)).length) vcf) = some k → k < b99 := fun k e => by rw [W101.eq]; exact ow_in oV k e
    have l106 : ∀ k, Value.ownBlock (.slice maf ((formM (setD L)).length) mcf) = some k → k < b99 := fun k e => by rw [W101.eq]; exact ow_in oM k e
    have G107 := G91.trans W101.gr
    have B108 := B92.gr W101.gr
    have B109 := B93.gr W101.gr
    have z110 := Nat.le_trans z94 W101.gr.size
    have O111 := ow_gr oV W101.gr
    have O112 := ow_gr oM W101.gr
    refine ssR rfl (wn _ rfl) (o_stR n98.at_ (n98.ne rfl (n97.ne rfl n96.at_)) W101.bk (by kernel_rfl) rfl (by simp [Value.oneCell'])) W101.bk (fun w113 u114 u114b => ?_)
    have G115 : Gr w w113 := Below.upd G107 l104 u114
    have B116 := B108.upd u114 (Nat.ne_of_lt l102)
    have B117 := B109.upd u114 (Nat.ne_of_lt l103)
    have z118 : h1 ≤ w113.heap.size := by rw [u114.size]; exact z110
    have O119 := ow_upd_ne O111 u114 l105
    have O120 := ow_upd_ne O112 u114 l106
    refine sv n98.ok rfl (wn _ rfl) rfl (o_as (n98.ne rfl n97.at_)) (fun an121 n121 => ?_)
    refine wpList_nil ?_
    refine th_n (hK81 _ _ ?_)
    refine wp_seq_k (fun K122 hK122 => ?_)
    refine wp_region_lit ?_
    refine sv n121.ok rfl (wn _ rfl) rfl (o_ldR (n121.ne rfl n98.at_) u114b Tryz.underlying33 rfl (by kernel_rfl)) (fun an123 n123 => ?_)
    have e124 := n123.ne rfl (n121.ne rfl (n98.ne rfl (n97.ne rfl (n96.ne rfl (n95.ne rfl (n88.ne rfl (n82.ne rfl (n35.ne rfl s2I28))))))))
    refine ssR rfl (wn _ rfl) (o_stR e124 n123.at_ B116 (by kernel_rfl) rfl (by simp [Value.oneCell'])) B116 (fun w125 u126 u126b => ?_)
    have G127 : Gr w w125 := Below.upd G115 l6 u126
    have B128 := B117.upd u126 (Nat.ne_of_gt l13)
    have B129 := u114b.upd u126 (Nat.ne_of_gt l102)
    have z130 : h1 ≤ w125.heap.size := by rw [u126.size]; exact z118
    have O131 := ow_upd O119 u126 l84
    have O132 := ow_upd O120 u126 l84
    refine wpList_nil ?_
    refine th_n (hK122 _ _ ?_)
    refine wp_ret ?_
    exact ret1 n123.ok rfl (⟨_, _, e124, ld_row u126b Tryz.underlying33 rfl (by kernel_rfl)⟩) ⟨_, rfl, ⟨_, _, rfl, own_less O131 l86, own_less O132 l86⟩, G127⟩
theorem kset_any (v : Value) (L : List (List Int)) (w : World) (h : RdLL w v L) : Calls Tryz.prog 60 #[v] w fun e w' => ∃ k, e = .returned k ∧ KnO w.heap.size w' k (formV (setD L)) (formM (setD L)) ∧ Gr w w' := by
  obtain ⟨a, c, rfl, hc, h⟩ := h
  exact set_k a c L hc w h
end Go.Proofs.YtghjfakellaecaaGreat

/- An argument that is a slice of structs of two integers reads as a list. -/
namespace Go.Proofs.YtghjfakellaecaaGreat
open Go.ChangeShapes Go.WideShapes Go.ChangeAt Go.RowKit Go.Deep Rm

theorem add_none {b off k : Nat} : (⟨b, off, none⟩ : Addr).add k = ⟨b, off + k, none⟩ := by
  unfold Addr.add
  by_cases h : k = 0 <;> simp [h]

theorem rd2_of {W : World} {a : Addr} {len cap : Nat} {V0 V1 : Nat → Value} (hl : len ≤ cap)
    (hc : ∀ i, i < len → W.cell? (a.add (i * 2)) = some (V0 i) ∧ W.cell? (a.add (i * 2 + 1)) = some (V1 i))
    (hi : ∀ i, i < len → ∃ x y : Int, V0 i = .int .i64 x ∧ V1 i = .int .i64 y) : ∃ l, Rd2 W (.slice (some a) len cap) l ∧ l.length = len := by
  have hi' : ∀ i, ∃ p : Int × Int, i < len → V0 i = .int .i64 p.1 ∧ V1 i = .int .i64 p.2 := by
    intro i
    by_cases h : i < len
    · obtain ⟨x, y, e⟩ := hi i h
      exact ⟨(x, y), fun _ => e⟩
    · exact ⟨(0, 0), fun h' => absurd h' h⟩
  refine ⟨(List.range len).map fun i => Classical.choose (hi' i), ⟨some a, cap, by simp, by simpa using hl, fun hne => ?_⟩, by simp⟩
  have h0 : 0 < len := by
    rcases Nat.eq_zero_or_pos len with h | h
    · subst h; simp at hne
    · exact h
  obtain ⟨b, off, spot⟩ := a
  have hc0 := (hc 0 h0).1
  have hspot : spot = none := by simpa [Addr.add] using World.cell?_spot hc0
  subst hspot
  have hlt : b < W.heap.size := by
    have := block_lt_of_cell hc0
    simpa [Addr.add] using this
  refine ⟨b, off, rfl, hlt, fun i p hp => ?_⟩
  have hil : i < len := by
    have := (List.getElem?_eq_some_iff.1 hp).1
    simpa using this
  have hp' : p = Classical.choose (hi' i) := by
    simp [List.getElem?_map, List.getElem?_range hil] at hp
    exact hp.symm
  obtain ⟨e1, e2⟩ := Classical.choose_spec (hi' i) hil
  obtain ⟨q1, q2⟩ := hc i hil
  rw [add_none] at q1 q2
  rw [hp']
  exact ⟨q1.trans (congrArg some e1), by rw [Nat.add_assoc]; exact q2.trans (congrArg some e2)⟩

end Go.Proofs.YtghjfakellaecaaGreat

/- An argument that is a set of dots, or a dot, reads as plain data. -/
set_option linter.unusedVariables false
namespace Go.Proofs.YtghjfakellaecaaGreat
open Go.ChangeShapes Go.WideShapes Go.ChangeAt Go.RowKit Go.Deep Rm

section
variable {H : Type} {enc : TypeId × Value → H} {W : World} {base : Nat} {spare : Nat → Bool} {held : Bool}
theorem kint_cells : Tryz.prog.cellsOf 3 = 1 := by kernel_rfl
theorem kints_cells : Tryz.prog.cellsOf 30 = 1 := by kernel_rfl
set_option maxRecDepth 100000 in
theorem kints_trod {fuel : Nat} {cs : List Value} {x : DataW H × List MemPlace} (h : DataW.trod enc Tryz.prog W base spare held fuel 30 cs = some x) : ∃ v l, cs = [v] ∧ R1 W v l := by
  rcases open_slice1 Tryz.underlying30 kint_cells h with ⟨rfl, _⟩ | ⟨a, len, cap, m, n, V, D, Pl, rfl, hb, hl, hm, hmm, hx, hcell⟩
  · exact ⟨_, [], rfl, R1.nil W⟩
  · have hlm : len ≤ m := by rw [hmm]; split <;> omega
    obtain ⟨q, hq⟩ := choose_lt (α := Int) (n := len) (p := fun i p => W.cell? (a.add i) = some (.int .i64 p)) (fun i hi => by
        obtain ⟨h1, h2⟩ := hcell i (by omega)
        obtain ⟨x, ex, _, _⟩ := DataW.trod_int Tryz.underlying3 h2
        simp at ex
        exact ⟨x, by rw [h1, ex]⟩)
    refine ⟨_, (List.range len).map q, rfl, ⟨some a, cap, by simp, by simpa using hl, fun hne => ?_⟩⟩
    have h0 : 0 < len := by
      rcases Nat.eq_zero_or_pos len with h | h
      · subst h; simp at hne
      · exact h
    obtain ⟨b, off, spot⟩ := a
    have hc0 := hq 0 h0
    have hspot : spot = none := by simpa [Addr.add] using World.cell?_spot hc0
    subst hspot
    have hlt : b < W.heap.size := by
      have := block_lt_of_cell hc0
      simpa [Addr.add] using this
    refine ⟨b, off, rfl, hlt, fun i p hp => ?_⟩
    have hil : i < len := by
      have := (List.getElem?_eq_some_iff.1 hp).1
      simpa using this
    have hp' : p = q i := by
      simp [List.getElem?_map, List.getElem?_range hil] at hp
      exact hp.symm
    subst hp'
    have q1 := hq i hil
    rw [add_none] at q1
    exact q1
end
end Go.Proofs.YtghjfakellaecaaGreat

/- Sets of small dots: joined, met, compared. -/
set_option linter.unusedVariables false
set_option linter.unusedSimpArgs false
namespace Rm
open Go Go.RowKit Gx
def Sm (D : DS) : Prop := ∀ s c, D s c = true → s < 5 ∧ 1 ≤ c ∧ c ≤ 12
theorem Sm.or {D E : DS} (h : Sm D) (h' : Sm E) : Sm (orD D E) := fun s c q => by
  simp only [orD, Bool.or_eq_true] at q
  exact q.elim (h s c) (h' s c)
theorem Sm.and {D E : DS} (h : Sm D) : Sm (andD D E) := fun s c q => by
  simp only [andD, Bool.and_eq_true] at q
  exact h s c q.1
theorem Sm.set (L : List (List Int)) : Sm (setD L) := setD_small L
end Rm
namespace Go.Proofs.YtghjfakellaecaaGreat
open Go.ChangeShapes Go.WideShapes Go.ChangeAt Go.RowKit Go.Deep Rm Gx
/-- a value that is a set of dots -/
def KnD (w : World) (k : Value) (D : DS) : Prop := KnR w k (ints (formV D)) (pairs (formM D))
theorem KnD.gr {w w' : World} {k : Value} {D : DS} (h : KnD w k D) (g : Gr w w') : KnD w' k D := KnR.gr h g
theorem KnD.form {w : World} {k : Value} {D : DS} (h : KnD w k D) : ∃ va vc ma mc, k = .agg #[.slice va (ints (formV D)).length vc, .slice ma (pairs (formM D)).length mc] := by
  obtain ⟨va, vc, ma, mc, h, -, -⟩ := knr_form h
  exact ⟨va, vc, ma, mc, h⟩
section
variable {H : Type} {enc : TypeId × Value → H} {W : World} {base : Nat} {spare : Nat → Bool} {held : Bool}
theorem RdI1.of {w : World} {v : Value} {V : List Int} (h : R1 w v V) : ∃ a c, v = .slice a V.length c ∧ V.length ≤ c ∧ RdI1 w a V := by
  obtain ⟨a, c, e, hc, h⟩ := h
  refine ⟨a, c, e, hc, fun hn => ?_⟩
  obtain ⟨b, off, e, hb, hx⟩ := h hn
  exact ⟨b, off, e, hb, fun i x h => by rw [Nat.mul_one]; exact hx i x h⟩
set_option maxRecDepth 100000 in
theorem rows_trod {fuel : Nat} {cs : List Value} {x : DataW H × List MemPlace} (h : DataW.trod enc Tryz.prog W base spare held fuel 113 cs = some x) : ∃ v L, cs = [v] ∧ RdLL W v L := by
  rcases open_slice Tryz.underlying113 h with ⟨rfl, _⟩ | ⟨a, len, cap, m, n, D, Pl, rfl, hb, hl, hm, hmm, hx, hcell⟩
  · exact ⟨_, [], rfl, none, 0, rfl, Nat.le_refl _, fun hn => absurd rfl hn⟩
  · have hlm : len ≤ m := by rw [hmm]; split <;> omega
    obtain ⟨q, hq⟩ := choose_lt (α := List Int) (n := len) (p := fun i p => ∃ ua uc, W.cell? (a.add i) = some (.slice ua p.length uc) ∧ RdI1 W ua p) (fun i hi => by
        obtain ⟨cs', h1, h2⟩ := hcell i (by omega)
        rw [kints_cells] at h1
        obtain ⟨uv, p, rfl, hs⟩ := kints_trod h2
        obtain ⟨ua, uc, rfl, -, hr⟩ := RdI1.of hs
        obtain ⟨_, _, hc⟩ := World.cells?_some h1
        have e0 := hc 0 (by omega)
        rw [add_add] at e0
        exact ⟨p, ua, uc, by simpa using e0, hr⟩)
    refine ⟨_, (List.range len).map q, rfl, some a, cap, by simp, by simpa using hl, fun hne => ?_⟩
    have h0 : 0 < len := by
      rcases Nat.eq_zero_or_pos len with h | h
      · subst h; simp at hne
      · exact h
    obtain ⟨b, off, spot⟩ := a
    obtain ⟨_, _, hc0, _⟩ := hq 0 h0
    have hspot : spot = none := by simpa [Addr.add] using World.cell?_spot hc0
    subst hspot
    have hlt : b < W.heap.size := by
      have := block_lt_of_cell hc0
      simpa [Addr.add] using this
    refine ⟨b, off, rfl, hlt, fun i p hp => ?_⟩
    have hil : i < len := by
      have := (List.getElem?_eq_some_iff.1 hp).1
      simpa using this
    have hp' : p = q i := by
      simp [List.getElem?_map, List.getElem?_range hil] at hp
      exact hp.symm
    subst hp'
    obtain ⟨ua, uc, q1, q2⟩ := hq i hil
    rw [add_none] at q1
    exact ⟨ua, uc, by rw [Nat.mul_one]; exact q1, q2⟩
end
end Go.Proofs.YtghjfakellaecaaGreat

/- Sets of small dots: within, has, count. -/
set_option linter.unusedVariables false
set_option linter.unusedSimpArgs false
namespace Rm
open Go Go.RowKit Gx
def wS (D E : DS) : Bool := withB (formV D) (formV E) (formM D) (formM E)
theorem wS_iff (D E : DS) : wS D E = true ↔ subD D E := by
  unfold wS
  rw [withB_iff (form_ok D) (form_ok E)]
  constructor
  · intro h s c i hd
    have := h s c i (by rw [form_mem D s c i]; exact hd)
    rwa [form_mem E s c i] at this
  · intro h s c i hd
    rw [form_mem D s c i] at hd
    rw [form_mem E s c i]
    exact h s c i hd
def hasD (D : DS) (x y : Int) : Bool := dotB (x, y) && D x.toNat y.toNat
def dotE (x y : Int) : Int := if dotB (x, y) then 0 else 1
end Rm
namespace Go.Proofs.YtghjfakellaecaaGreat
open Go.RowKit Rm Gx
end Go.Proofs.YtghjfakellaecaaGreat

/- Sets of dots gathered row by row; counts. -/
set_option linter.unusedVariables false
set_option linter.unusedSimpArgs false
namespace Rm
open Go Go.RowKit Gx
/-- dots that may be, small but for one -/
def Sn (D : DS) : Prop := ∃ b, ∀ s c, D s c = true → s < 5 ∧ 1 ≤ c ∧ c ≤ 1000 ∧ (c ≤ 12 ∨ c = b)
theorem Sm.sn {D : DS} (h : Sm D) : Sn D := ⟨0, fun s c q => by have := h s c q; omega⟩
theorem Sm.add {D : DS} (h : Sm D) {a b : Nat} (i : a < 5 ∧ 1 ≤ b ∧ b ≤ 12) : Sm (addD D a b) := fun s c q => by
  simp only [addD, Bool.or_eq_true, decide_eq_true_eq] at q
  rcases q with q | ⟨rfl, rfl⟩
  · exact h s c q
  · exact i
theorem cp_or (f g : Nat → Bool) (l : List Nat) : List.countP (fun c => f c || g c) l ≤ List.countP f l + List.countP g l := by
  induction l with
  | nil => simp
  | cons a l ih =>
    simp only [List.countP_cons]
    cases f a <;> cases g a <;> simp <;> omega
theorem one_small (b : Nat) : ((List.range 1001).filter fun c => decide (c = b)).length ≤ 1 := by
  have h : ((List.range 1001).filter fun c => decide (c = b)) = ((List.range 1001).filter fun c => c == b) := by
    congr 1
  rw [h]
  have := List.count_range (n := 1001) (a := b)
  rw [← List.countP_eq_length_filter]
  have e : List.countP (fun c => c == b) (List.range 1001) = List.count b (List.range 1001) := rfl
  rw [e, this]
  split <;> omega
theorem Sn.form {D : DS} (h : Sn D) : (formM D).length ≤ 60 := by
  obtain ⟨b, h⟩ := h
  have key : ∀ s, (restD D s).length ≤ 12 := by
    intro s
    unfold restD
    rw [List.length_map]
    have h1 : ((List.range 1001).filter fun c => decide (run D s + 2 ≤ c) && D s c).length ≤ ((List.range 1001).filter fun c => decide (2 ≤ c ∧ c ≤ 12) || decide (c = b)).length := by
      rw [← List.countP_eq_length_filter, ← List.countP_eq_length_filter]
      apply List.countP_mono_left
      intro c _ hc
      simp only [Bool.and_eq_true, Bool.or_eq_true, decide_eq_true_eq] at hc ⊢
      have := h s c hc.2
      omega
    have h2 : ((List.range 1001).filter fun c => decide (2 ≤ c ∧ c ≤ 12) || decide (c = b)).length ≤ ((List.range 1001).filter fun c => decide (2 ≤ c ∧ c ≤ 12)).length + ((List.range 1001).filter fun c => decide (c = b)).length := by
      rw [← List.countP_eq_length_filter, ← List.countP_eq_length_filter, ← List.countP_eq_length_filter]
      exact cp_or _ _ _
    have h3 : ((List.range 1001).filter fun c => decide (2 ≤ c ∧ c ≤ 12)).length ≤ 11 := by decide +kernel
    have h4 := one_small b
    omega
  have k0 := key 0
  have k1 := key 1
  have k2 := key 2
  have k3 := key 3
  have k4 := key 4
  show ((List.range 5).flatMap (restD D)).length ≤ 60
  have e : (List.range 5).flatMap (restD D) = restD D 0 ++ restD D 1 ++ restD D 2 ++ restD D 3 ++ restD D 4 := by
    rw [show List.range 5 = [0, 1, 2, 3, 4] from rfl]
    simp [List.flatMap_cons, List.append_assoc]
  rw [e]
  simp only [List.length_append]
  omega
/-! counts -/
theorem Sm.inR {D : DS} (h : Sm D) : ∀ s c, D s c = true → inR s c := fun s c q => by
  have := h s c q
  exact ⟨this.1, this.2.1, by omega⟩
theorem Sn.inR {D : DS} (h : Sn D) : ∀ s c, D s c = true → Rm.inR s c := fun s c q => by
  obtain ⟨b, h⟩ := h
  have := h s c q
  exact ⟨this.1, this.2.1, this.2.2.1⟩
end Rm
namespace Go.Proofs.YtghjfakellaecaaGreat
open Go.RowKit Rm Gx
theorem KnD.congr {w : World} {k : Value} {D E : DS} (h : KnD w k D) (e : EqD D E) : KnD w k E := by
  obtain ⟨h1, h2⟩ := form_congr e
  unfold KnD
  rw [← h1, ← h2]
  exact h
/-! what outlives stores into two blocks -/
def Near (b1 b2 : Nat) (w w' : World) : Prop := w.heap.size ≤ w'.heap.size ∧ ∀ b : Nat, b < w.heap.size → b ≠ b1 → b ≠ b2 → w'.heap[b]? = w.heap[b]?
theorem Near.refl {b1 b2 : Nat} (w : World) : Near b1 b2 w w := ⟨Nat.le_refl _, fun _ _ _ _ => rfl⟩
theorem Near.trans {b1 b2 : Nat} {w w' w'' : World} (h : Near b1 b2 w w') (k : Near b1 b2 w' w'') : Near b1 b2 w w'' :=
  ⟨Nat.le_trans h.1 k.1, fun b hb h1 h2 => (k.2 b (Nat.lt_of_lt_of_le hb h.1) h1 h2).trans (h.2 b hb h1 h2)⟩
theorem Near.gr {b1 b2 : Nat} {w w' : World} (g : Gr w w') : Near b1 b2 w w' := ⟨g.size, fun b hb _ _ => Below.block g b hb⟩
def KnS (b1 b2 : Nat) (w : World) (k : Value) (D : DS) : Prop := ∀ w', Near b1 b2 w w' → KnD w' k D
theorem KnS.here {b1 b2 : Nat} {w : World} {k : Value} {D : DS} (h : KnS b1 b2 w k D) : KnD w k D := h w (Near.refl w)
theorem KnS.gr {b1 b2 : Nat} {w w' : World} {k : Value} {D : DS} (h : KnS b1 b2 w k D) (g : Gr w w') : KnS b1 b2 w' k D := fun w'' q => h w'' ((Near.gr g).trans q)
theorem KnS.congr {b1 b2 : Nat} {w : World} {k : Value} {D E : DS} (h : KnS b1 b2 w k D) (e : EqD D E) : KnS b1 b2 w k E := fun w' q => (h w' q).congr e
theorem KnS.form {b1 b2 : Nat} {w : World} {k : Value} {D : DS} (h : KnS b1 b2 w k D) : ∃ va vc ma mc, k = .agg #[.slice va (ints (formV D)).length vc, .slice ma (pairs (formM D)).length mc] := h.here.form
end Go.Proofs.YtghjfakellaecaaGreat

/- Joined: SpanD, SpanE, SpanF, SpanG, SpanH, SpanI, MaskM, SpanO. -/
/- The contracts of package span's combine and what stands on it, and of slices.Equal over spans. -/
namespace Rm
open Go Go.RowKit
theorem sbne_of {a : Int} (h : (a == 0) = true) : (a != 0) = false := by simp [bne, h]
theorem sbne_of' {a : Int} (h : (a == 0) = false) : (a != 0) = true := by simp [bne, h]
theorem chkGo_valid : ∀ (l : List (Int × Int)) (last : Int), -1 ≤ last → chkGo last l = 0 → ∃ L, l = pairs L ∧ VF (last + 1).toNat L
  | [], _, _, _ => ⟨[], rfl, trivial⟩
  | p :: l, last, hl, h => by
    unfold chkGo at h
    split at h
    · omega
    · split at h
      · omega
      · rename_i h1 h2
        obtain ⟨L, rfl, hv⟩ := chkGo_valid l p.2 (by omega) h
        refine ⟨(p.1.toNat, p.2.toNat) :: L, ?_, ?_⟩
        · simp only [pairs, List.map_cons, List.cons.injEq, and_true]
          ext
          · simp only; omega
          · simp only; omega
        · refine ⟨by simp only; omega, by simp only; omega, by simp only; omega, ?_⟩
          have e : (p.2 + 1).toNat = p.2.toNat + 1 := by omega
          rw [← e]
          exact hv
theorem valid_of {l : List (Int × Int)} (h : chkS l = 0) : ∃ L, l = pairs L ∧ VF 0 L := by
  unfold chkS at h
  split at h
  · omega
  · exact chkGo_valid l (-1) (by omega) h
theorem chkGo_of : ∀ (L : List (Nat × Nat)) (lo : Nat) (last : Int), last < lo → VF lo L → chkGo last (pairs L) = 0
  | [], _, _, _, _ => rfl
  | p :: L, lo, last, hl, h => by
    obtain ⟨h1, h2, h3, h4⟩ := h
    show (if (p.1 : Int) < 0 ∨ 32 < (p.2 : Int) ∨ (p.2 : Int) ≤ (p.1 : Int) then 1 else if (p.1 : Int) ≤ last then 3 else chkGo (p.2 : Int) (pairs L)) = 0
    rw [if_neg (by omega), if_neg (by omega)]
    exact chkGo_of L (p.2 + 1) p.2 (by omega) h4
theorem chkS_of {L : List (Nat × Nat)} (h : VF 0 L) : chkS (pairs L) = 0 := by
  unfold chkS
  rw [if_neg (by rw [pairs_len]; have := h.len16; omega)]
  exact chkGo_of L 0 (-1) (by omega) h
/-- what Less does to masks -/
def lessM (a b : Nat) : Nat := a &&& (4294967295 - b)
theorem lessM_bit (a b i : Nat) (hb : b < 2 ^ 32) (ha : a < 2 ^ 32) : (lessM a b).testBit i = (a.testBit i && !b.testBit i) := by
  unfold lessM
  have e : 4294967295 - b = 2 ^ 32 - (b + 1) := by omega
  rw [e, Nat.testBit_and, Nat.testBit_two_pow_sub_succ hb]
  by_cases h : i < 32
  · simp [h]
  · have h2 : a.testBit i = false := Nat.testBit_lt_two_pow (Nat.lt_of_lt_of_le ha (Nat.pow_le_pow_right (by omega) (by omega)))
    simp [h2]
theorem lessM_lt (a b : Nat) (ha : a < 2 ^ 32) : lessM a b < 2 ^ 32 := Nat.lt_of_le_of_lt Nat.and_le_left ha
end Rm
namespace Go.Proofs.YtghjfakellaecaaGreat
open Go.RowKit Rm
set_option linter.unusedVariables false

theorem ListAt.more {w w1 w2 : World} {l : List (Nat × Nat)} {v : Value} (g : Gr w w1) (h : ListAt w1 w2 l v) : ListAt w w2 l v := by
  refine ⟨g.trans h.1, h.2.1, ?_⟩
  rcases h.2.2 with ⟨a, b⟩ | ⟨g', cap, cur, a, b, c⟩
  · exact .inl ⟨a, b⟩
  · exact .inr ⟨g', cap, cur, a, Nat.le_trans g.le b, c⟩
theorem ListAt.rd {w w1 : World} {l : List (Nat × Nat)} {v : Value} (h : ListAt w w1 l v) : Rd2 w1 v (pairs l) := Rd2.own h.2

end Go.Proofs.YtghjfakellaecaaGreat
/- The contracts of math/bits.OnesCount32 and of span.Count, Has, Within. -/
namespace Rm
open Go Go.RowKit
/-- how many bits of a number are set, below the k-th -/
def popTo (m : Nat) : Nat → Nat
  | 0 => 0
  | k + 1 => popTo m k + (m.testBit k).toNat
theorem popTo_le (m k : Nat) : popTo m k ≤ k := by
  induction k with
  | zero => exact Nat.le_refl _
  | succ k ih => have := Bool.toNat_le (m.testBit k); simp only [popTo]; omega
theorem popTo_congr {m m' k : Nat} (h : ∀ i, i < k → m.testBit i = m'.testBit i) : popTo m k = popTo m' k := by
  induction k with
  | zero => rfl
  | succ k ih => simp only [popTo]; rw [ih (fun i hi => h i (by omega)), h k (by omega)]
theorem popTo_add (m j k : Nat) : popTo m (j + k) = popTo m j + popTo (m / 2 ^ j) k := by
  induction k with
  | zero => rfl
  | succ k ih =>
    show popTo m (j + k) + (m.testBit (j + k)).toNat = popTo m j + (popTo (m / 2 ^ j) k + ((m / 2 ^ j).testBit k).toNat)
    rw [ih, Nat.testBit_div_two_pow, Nat.add_comm k j]
    omega
theorem popTo_mod (m : Nat) : popTo (m % 256) 8 = popTo m 8 := by
  apply popTo_congr
  intro i hi
  have e : m % 256 = m % 2 ^ 8 := rfl
  rw [e, Nat.testBit_mod_two_pow]
  simp [hi]
/-- the elements of a set -/
def popc (m : Nat) : Nat := popTo m 32
theorem popc_le (m : Nat) : popc m ≤ 32 := popTo_le m 32
theorem popc_bytes (x : Nat) : popc x = popTo (x % 256) 8 + popTo (x / 256 % 256) 8 + popTo (x / 65536 % 256) 8 + popTo (x / 16777216 % 256) 8 := by
  unfold popc
  rw [popTo_mod, popTo_mod, popTo_mod, popTo_mod]
  have e1 : popTo x 32 = popTo x 8 + popTo (x / 2 ^ 8) 24 := popTo_add x 8 24
  have e2 : popTo (x / 2 ^ 8) 24 = popTo (x / 2 ^ 8) 8 + popTo (x / 2 ^ 8 / 2 ^ 8) 16 := popTo_add (x / 2 ^ 8) 8 16
  have e3 : popTo (x / 2 ^ 8 / 2 ^ 8) 16 = popTo (x / 2 ^ 8 / 2 ^ 8) 8 + popTo (x / 2 ^ 8 / 2 ^ 8 / 2 ^ 8) 8 := popTo_add (x / 2 ^ 8 / 2 ^ 8) 8 8
  have d1 : x / 2 ^ 8 = x / 256 := rfl
  have d2 : x / 256 / 2 ^ 8 = x / 65536 := by rw [Nat.div_div_eq_div_mul]
  have d3 : x / 65536 / 2 ^ 8 = x / 16777216 := by rw [Nat.div_div_eq_div_mul]
  rw [d1] at e1 e2 e3
  rw [d2] at e2 e3
  rw [d3] at e3
  omega
end Rm
namespace Go.Proofs.YtghjfakellaecaaGreat
open Go.RowKit Rm
set_option linter.unusedVariables false

/-! span.Count -/
/-! span.Has -/
/-! span.Within -/
/-- is a mask within another one? -/
def subM (a b : Nat) : Bool := lessM a b == 0
end Go.Proofs.YtghjfakellaecaaGreat
/- The contracts of slices.Equal over spans, and of the statements' own sets. -/
namespace Go.Proofs.YtghjfakellaecaaGreat
open Go.RowKit Rm
set_option linter.unusedVariables false

end Go.Proofs.YtghjfakellaecaaGreat
/- The contracts of the document's own sets: Told, and the statements' spans and every. -/
namespace Rm
open Go Go.RowKit
theorem Blk_lt {w : World} {g : Nat} {o : Obj} (h : w.heap[g]? = some o) : g < w.heap.size := by
  rcases Nat.lt_or_ge g w.heap.size with c | c
  · exact c
  · rw [Array.getElem?_eq_none c] at h; cases h
end Rm
namespace Go.Proofs.YtghjfakellaecaaGreat
open Go.RowKit Rm
set_option linter.unusedVariables false

end Go.Proofs.YtghjfakellaecaaGreat
/- The contracts of the statements' spans and every. -/
namespace Rm
open Go Go.RowKit
/-- the bits below the k-th -/
def cut (m k i : Nat) : Bool := decide (i < k) && m.testBit i
end Rm
namespace Go.Proofs.YtghjfakellaecaaGreat
open Go.RowKit Rm
set_option linter.unusedVariables false

end Go.Proofs.YtghjfakellaecaaGreat
/- Package span by masks: what each function does to sets that are told by 32 bits. -/
namespace Go.Proofs.YtghjfakellaecaaGreat
open Go.RowKit Rm
set_option linter.unusedVariables false

/-- a slice that is the set of a mask -/
def MS (w : World) (v : Value) (a : Nat) : Prop := Rd2 w v (pairs (canon a)) ∧ a < 2 ^ 32
theorem MS.gr {w w' : World} {v : Value} {a : Nat} (h : MS w v a) (g : Gr w w') : MS w' v a := ⟨h.1.gr g, h.2⟩
theorem MS.alloc {w : World} {v : Value} {a : Nat} (h : MS w v a) (o : Obj) : MS (w.alloc o) v a := ⟨h.1.alloc o, h.2⟩
end Go.Proofs.YtghjfakellaecaaGreat
/- The plain mathematics of masks: Boole, De Morgan, parts, counts. -/
namespace Go.Proofs.YtghjfakellaecaaGreat
open Rm

theorem bit_big {a i : Nat} (h : a < 2 ^ 32) (hi : ¬ i < 32) : a.testBit i = false :=
  Nat.testBit_lt_two_pow (Nat.lt_of_lt_of_le h (Nat.pow_le_pow_right (by omega) (by omega)))
theorem mask_ext {a b : Nat} (ha : a < 2 ^ 32) (hb : b < 2 ^ 32) (h : ∀ i, i < 32 → a.testBit i = b.testBit i) : a = b := by
  apply Nat.eq_of_testBit_eq
  intro i
  by_cases hi : i < 32
  · exact h i hi
  · rw [bit_big ha hi, bit_big hb hi]
theorem sub_iff {a b : Nat} (ha : a < 2 ^ 32) (hb : b < 2 ^ 32) : subM a b = true ↔ ∀ i, i < 32 → a.testBit i = true → b.testBit i = true := by
  unfold subM
  simp only [beq_iff_eq]
  constructor
  · intro h i hi hai
    have e := lessM_bit a b i hb ha
    rw [h, Nat.zero_testBit, hai] at e
    cases hbi : b.testBit i
    · rw [hbi] at e; cases e
    · rfl
  · intro h
    refine mask_ext (lessM_lt _ _ ha) (by decide) fun i hi => ?_
    rw [lessM_bit _ _ _ hb ha, Nat.zero_testBit]
    cases hai : a.testBit i
    · rfl
    · rw [h i hi hai]; rfl
end Go.Proofs.YtghjfakellaecaaGreat
/- The contract of span.Of; slices of integers. -/
namespace Rm
open Go Go.RowKit
/-- the set of the integers of a list -/
def maskI (l : List Int) : Nat := l.foldl (fun m x => m ||| 2 ^ x.toNat) 0
theorem maskI_take {l : List Int} {k : Nat} {x : Int} (h : l[k]? = some x) : maskI (l.take (k + 1)) = maskI (l.take k) ||| 2 ^ x.toNat := by
  obtain ⟨hk, e⟩ := List.getElem?_eq_some_iff.1 h
  rw [List.take_succ_eq_append_getElem hk, e]
  simp [maskI]
theorem all_take {l : List Int} {k : Nat} {x : Int} (h : l[k]? = some x) (p : Int → Bool) : (l.take (k + 1)).all p = ((l.take k).all p && p x) := by
  obtain ⟨hk, e⟩ := List.getElem?_eq_some_iff.1 h
  rw [List.take_succ_eq_append_getElem hk, e]
  simp
theorem all_not {l : List Int} {k : Nat} {x : Int} (h : l[k]? = some x) (p : Int → Bool) (hp : p x = false) : l.all p = false := by
  cases ha : l.all p
  · rfl
  · rw [List.all_eq_true] at ha
    rw [ha x (List.mem_of_getElem? h)] at hp
    cases hp
theorem foldI_lt (l : List Int) (m : Nat) (hm : m < 2 ^ 32) (h : l.all numB = true) : l.foldl (fun m x => m ||| 2 ^ x.toNat) m < 2 ^ 32 := by
  induction l generalizing m with
  | nil => exact hm
  | cons x l ih =>
    simp only [List.all_cons, Bool.and_eq_true] at h
    refine ih _ (Nat.or_lt_two_pow hm (Nat.pow_lt_pow_right (by omega) ?_)) h.2
    have := h.1
    simp [numB] at this
    omega
theorem maskI_lt {l : List Int} (h : l.all numB = true) : maskI l < 2 ^ 32 := foldI_lt l 0 (by decide) h
end Rm
namespace Go.Proofs.YtghjfakellaecaaGreat
open Go.RowKit Rm
set_option linter.unusedVariables false
/-- a slice of integers reads as a list -/
def Rd1 (w : World) (v : Value) (l : List Int) : Prop :=
  ∃ a c, v = .slice a l.length c ∧ l.length ≤ c ∧ (l ≠ [] → ∃ b off, a = some ⟨b, off, none⟩ ∧ b < w.heap.size ∧ ∀ i x, l[i]? = some x → w.cell? ⟨b, off + i, none⟩ = some (.int .i64 x))
theorem Rd1.gr {w w' : World} {v : Value} {l : List Int} (h : Rd1 w v l) (g : Gr w w') : Rd1 w' v l := by
  obtain ⟨a, c, e, hc, h⟩ := h
  refine ⟨a, c, e, hc, fun hl => ?_⟩
  obtain ⟨b, off, ea, hb, hx⟩ := h hl
  exact ⟨b, off, ea, Nat.lt_of_lt_of_le hb g.le, fun i p hp => (g.cells.1 b _ hb).trans (hx i p hp)⟩
theorem Rd1.alloc {w : World} {v : Value} {l : List Int} (h : Rd1 w v l) (o : Obj) : Rd1 (w.alloc o) v l := h.gr ((Gr.refl w).alloc o)

set_option maxHeartbeats 1000000 in
set_option maxRecDepth 100000 in
theorem of_any (v : Value) (l : List Int) (w : World) (hr : Rd1 w v l) (hlen : l.length ≤ 400) :
    Calls Tryz.prog 144 #[v] w fun e w' => (l.all numB = false ∧ e = .returned (.tuple #[.slice none 0 0, .int .i64 1]) ∧ Gr w w') ∨
      (l.all numB = true ∧ ∃ u, e = .returned (.tuple #[u, .int .i64 0]) ∧ ListAt w w' (canon (maskI l)) u ∧ maskI l < 2 ^ 32) := by
  obtain ⟨a, cp, rfl, hcp, hx⟩ := hr
  have HX := Lib.hid hx
  have hlen' : (l.length : Int) ≤ 400 := by omega
  clear hx
  go_enter Tryz.func144, Tryz.ntmps144
  go_wp2_with fail
  go_loopw [4, 12] (fun m i wr => ∃ k : Nat, k ≤ l.length ∧ i = .int .i64 k ∧ m = .int .u32 (maskI (l.take k) : Nat) ∧ Hid ((l.take k).all numB = true) ∧ Gr w wr) (fun _ i _ => l.length - (intOf i).toNat)
  case atStart => exact ⟨0, by omega, rfl, rfl, by simp [Hid], Gr.refl _⟩
  case round =>
    obtain ⟨k, hk, rfl, rfl, hall, hg⟩ := hrel
    generalize wr = wo at *
    by_cases hlt : k < l.length
    · obtain ⟨x, hp⟩ : ∃ p, l[k]? = some p := ⟨_, List.getElem?_eq_getElem hlt⟩
      obtain ⟨b, off, rfl, hb, hcell⟩ := HX.out (by intro e; rw [e] at hlt; simp at hlt)
      have c1 : w.cell? ⟨b, off + k, none⟩ = some (.int .i64 x) := hcell k _ hp
      rw [← hg.cells.1 b _ hb] at c1
      have hbr : b < wo.heap.size := Nat.lt_of_lt_of_le hb hg.le
      have hml := Lib.hid (maskI_lt hall.out)
      have HM := Lib.hid (maskI_take hp)
      have HAT := Lib.hid (all_take hp numB)
      have HNO := Lib.hid (all_not hp numB)
      generalize maskI (l.take k) = m at *
      have hk4 : (k : Int) < 400 := by omega
      clear hcell
      have HP := Lib.hid hp
      clear hp
      cases hn : numB x
      · have HN := Lib.hid (HNO.out hn)
        clear HNO
        go_wp2_with fail
        refine (isNum_any _ _).mono ?_
        rintro e w2 ⟨rfl, rfl⟩
        go_wp2_with fail
        go_ret2
        exact Or.inl ⟨HN.out, rfl, hg⟩
      · obtain ⟨n, rfl⟩ := Int.eq_ofNat_of_zero_le (show 0 ≤ x by simp [numB] at hn; omega)
        have hn32 : n < 32 := by simp [numB] at hn; omega
        have HO := Lib.hid (or_eq m n hml.out hn32)
        have hn32' : (n : Int) < 32 := by omega
        have HA : Hid ((l.take (k + 1)).all numB = true) := by unfold Hid; rw [HAT.out, hall.out, hn]; rfl
        have HM2 : Hid (maskI (l.take (k + 1)) = m ||| 2 ^ n) := HM.out
        clear HNO HAT HM
        go_wp2_with fail
        refine (isNum_any _ _).mono ?_
        rintro e w2 ⟨rfl, rfl⟩
        go_wp2
        go_roundw
        case measure => simp [intOf]; omega
        case rel => exact ⟨k + 1, by omega, by go_num, by rw [HM2.out, ← HO.out, IntKind.wrap_u32'], HA, hg⟩
    · obtain rfl : k = l.length := by omega
      rw [List.take_length] at hall
      rw [List.take_length]
      have HL := Lib.hid (maskI_lt hall.out)
      go_wp2_with fail
      refine (list_any _ _ HL.out).mono ?_
      rintro e w2 ⟨u, rfl, hu⟩
      go_wp2_with fail
      go_ret2
      exact Or.inr ⟨hall.out, _, rfl, hu.more hg, HL.out⟩
end Go.Proofs.YtghjfakellaecaaGreat

/- Joined: CubeA, CubeH. -/
/- The contracts of package cube's small functions. -/
namespace Go.Proofs.YtghjfakellaecaaGreat
open Go.RowKit Rm

theorem bne_of {a : Int} (h : (a == 0) = true) : (a != 0) = false := by simp [bne, h]
theorem bne_of' {a : Int} (h : (a == 0) = false) : (a != 0) = true := by simp [bne, h]

set_option maxHeartbeats 400000 in
set_option maxRecDepth 100000 in
theorem areTags_any (x : Int) (w : World) :
    Calls Tryz.prog 136 #[.int .i64 x] w fun e w' => e = .returned (.bool (tagsB x)) ∧ w = w' := by
  by_cases h0 : 0 ≤ x
  · by_cases h1 : x ≤ 15
    · have ht : tagsB x = true := by simp [tagsB, h0, h1]
      rw [ht]
      go_enter Tryz.func136, Tryz.ntmps136
      go_wp2
      go_ret
      exact ⟨rfl, rfl⟩
    · have ht : tagsB x = false := by simp [tagsB, h1]
      rw [ht]
      go_enter Tryz.func136, Tryz.ntmps136
      go_wp2
      go_ret
      exact ⟨rfl, rfl⟩
  · have ht : tagsB x = false := by simp [tagsB, h0]
    rw [ht]
    go_enter Tryz.func136, Tryz.ntmps136
    go_wp2
    go_ret
    exact ⟨rfl, rfl⟩

set_option maxHeartbeats 400000 in
set_option maxRecDepth 100000 in
theorem check_any (y n : Int) (w : World) :
    Calls Tryz.prog 102 #[.agg #[.int .i64 y, .int .i64 n]] w fun e w' => e = .returned (.int .i64 (chk y n)) ∧ Gr w w' := by
  cases hy : tagsB y
  · have hc : chk y n = 1 := by simp [chk, hy]
    rw [hc]
    go_enter Tryz.func102, Tryz.ntmps102
    go_wp2_with (go_at_call 136; refine (areTags_any _ _).mono ?_; rintro e w' ⟨rfl, rfl⟩)
    go_ret
    exact ⟨rfl, (Gr.refl _).alloc _⟩
  cases hn : tagsB n
  · have hc : chk y n = 1 := by simp [chk, hn]
    rw [hc]
    go_enter Tryz.func102, Tryz.ntmps102
    go_wp2_with (go_at_call 136; refine (areTags_any _ _).mono ?_; rintro e w' ⟨rfl, rfl⟩)
    go_ret
    exact ⟨rfl, (Gr.refl _).alloc _⟩
  cases hb : (bits .and .i64 y n == 0)
  · have hc : chk y n = 3 := by simp [chk, hy, hn, hb]
    rw [hc]
    have hb' : (bits .and .i64 y n != 0) = true := by simp [bne, hb]
    go_enter Tryz.func102, Tryz.ntmps102
    go_wp2_with (go_at_call 136; refine (areTags_any _ _).mono ?_; rintro e w' ⟨rfl, rfl⟩)
    go_ret
    exact ⟨rfl, (Gr.refl _).alloc _⟩
  · have hc : chk y n = 0 := by simp [chk, hy, hn, hb]
    rw [hc]
    have hb' : (bits .and .i64 y n != 0) = false := by simp [bne, hb]
    go_enter Tryz.func102, Tryz.ntmps102
    go_wp2_with (go_at_call 136; refine (areTags_any _ _).mono ?_; rintro e w' ⟨rfl, rfl⟩)
    go_ret
    exact ⟨rfl, (Gr.refl _).alloc _⟩

end Go.Proofs.YtghjfakellaecaaGreat
/- The contract of cube.Has. -/
namespace Go.Proofs.YtghjfakellaecaaGreat
open Go.RowKit Rm

set_option maxHeartbeats 400000 in
set_option maxRecDepth 100000 in
theorem has_any (y n t : Int) (w : World) :
    Calls Tryz.prog 119 #[.agg #[.int .i64 y, .int .i64 n], .int .i64 t] w fun e w' => e = .returned (.tuple #[.bool (hasR y n t), .int .i64 (hasE y n t)]) ∧ Gr w w' := by
  cases hc : (chk y n == 0)
  · have hc1 : hasE y n t = chk y n := by simp [hasE, hc]
    have hc2 : hasR y n t = false := by simp [hasR, hc1, hc]
    rw [hc2, hc1]
    have hc' := bne_of' hc
    clear hc1 hc2
    go_enter Tryz.func119, Tryz.ntmps119
    go_wp2_with (go_at_call 102; refine (check_any _ _ _).mono ?_; rintro e w1 ⟨rfl, hb⟩)
    go_ret2
    exact ⟨rfl, ((Gr.refl _).alloc _).trans hb⟩
  · have hc' := bne_of hc
    have h0 : chk y n = 0 := by simpa using hc
    cases ht : tagsB t
    · have hc1 : hasE y n t = 1 := by simp [hasE, h0, ht]
      have hc2 : hasR y n t = false := by simp [hasR, hc1]
      rw [hc2, hc1]
      clear hc1 hc2 h0
      go_enter Tryz.func119, Tryz.ntmps119
      go_wp2_with fail
      refine (check_any _ _ _).mono ?_
      rintro e w1 ⟨rfl, hb⟩
      go_wp2_with (go_at_call 136; refine (areTags_any _ _).mono ?_; rintro e w' ⟨rfl, rfl⟩)
      go_ret2
      exact ⟨rfl, ((Gr.refl _).alloc _).trans hb⟩
    · have hc1 : hasE y n t = 0 := by simp [hasE, h0, ht]
      cases h1 : (bits .andNot .i64 y t == 0)
      · have hc2 : hasR y n t = false := by simp [hasR, hasB, hc1, h1]
        rw [hc2, hc1]
        clear hc1 hc2 h0
        go_enter Tryz.func119, Tryz.ntmps119
        go_wp2_with fail
        refine (check_any _ _ _).mono ?_
        rintro e w1 ⟨rfl, hb⟩
        obtain ⟨hbc, hbf⟩ := hb.cells
        go_wp2_with (go_at_call 136; refine (areTags_any _ _).mono ?_; rintro e w' ⟨rfl, rfl⟩)
        go_ret2
        exact ⟨rfl, ((Gr.refl _).alloc _).trans hb⟩
      · cases h2 : (bits .and .i64 n t == 0)
        · have hc2 : hasR y n t = false := by simp [hasR, hasB, hc1, h2]
          rw [hc2, hc1]
          clear hc1 hc2 h0
          go_enter Tryz.func119, Tryz.ntmps119
          go_wp2_with fail
          refine (check_any _ _ _).mono ?_
          rintro e w1 ⟨rfl, hb⟩
          obtain ⟨hbc, hbf⟩ := hb.cells
          go_wp2_with (go_at_call 136; refine (areTags_any _ _).mono ?_; rintro e w' ⟨rfl, rfl⟩)
          go_ret2
          exact ⟨rfl, ((Gr.refl _).alloc _).trans hb⟩
        · have hc2 : hasR y n t = true := by simp [hasR, hasB, hc1, h1, h2]
          rw [hc2, hc1]
          clear hc1 hc2 h0
          go_enter Tryz.func119, Tryz.ntmps119
          go_wp2_with fail
          refine (check_any _ _ _).mono ?_
          rintro e w1 ⟨rfl, hb⟩
          obtain ⟨hbc, hbf⟩ := hb.cells
          go_wp2_with (go_at_call 136; refine (areTags_any _ _).mono ?_; rintro e w' ⟨rfl, rfl⟩)
          go_ret2
          exact ⟨rfl, ((Gr.refl _).alloc _).trans hb⟩

end Go.Proofs.YtghjfakellaecaaGreat

/- The contracts of the document's own Spans and Set. -/
namespace Rm
open Go Go.RowKit
theorem Gr.setRow {a w : World} (h : Gr a w) {g : Nat} (hg : a.heap.size ≤ g) (cs : Array Value) : Gr a (w.setRow g cs) :=
  ⟨h.os, h.tape, h.output, by have := h.le; simpa using this, fun k hk => (setRow_other w g k cs (by omega)).trans (h.block k hk)⟩
end Rm
namespace Go.Proofs.YtghjfakellaecaaGreat
open Go.RowKit Rm
set_option linter.unusedVariables false

end Go.Proofs.YtghjfakellaecaaGreat

/- Joined: FilP, FilA, FilB, FilC, FilD. -/
/- The plain mathematics of filters: boxes as they are read, valid boxes, the table of a filter. -/
namespace Rm
open Go Go.RowKit

/-- a box, as it is read -/
abbrev BoxI := (Int × Int) × List (Int × Int)
/-- what Check says of a box -/
def chkB (b : BoxI) : Int := if chk b.1.1 b.1.2 == 0 then chkS b.2 else chk b.1.1 b.1.2
def chkFGo : List BoxI → Int
  | [] => 0
  | b :: r => if chkB b == 0 then chkFGo r else chkB b
/-- what Check says of a filter -/
def chkF (l : List BoxI) : Int := if 40 < l.length then 2 else chkFGo l
def chkF2 (l r : List BoxI) : Int := if chkF l == 0 then chkF r else chkF l
/-- a valid box: the tags that must be, the tags that must not be, the numbers as a mask -/
abbrev Bx := (Nat × Nat) × Nat
def OkB (b : Bx) : Prop := Vld b.1.1 b.1.2 ∧ b.2 < 2 ^ 32
def OkF (F : List Bx) : Prop := ∀ b ∈ F, OkB b
def boxI (b : Bx) : BoxI := (((b.1.1 : Nat), (b.1.2 : Nat)), pairs (canon b.2))
theorem chkB_of {b : Bx} (h : OkB b) : chkB (boxI b) = 0 := by
  unfold chkB boxI
  simp only
  rw [h.1.chk, chkS_of (canon_VF b.2)]
  rfl
theorem okB_of {b : BoxI} (h : chkB b = 0) : ∃ B : Bx, b = boxI B ∧ OkB B := by
  obtain ⟨⟨y, n⟩, s⟩ := b
  unfold chkB at h
  simp only at h
  split at h
  · rename_i h0
    obtain ⟨a, c, hv, rfl, rfl⟩ := Vld.of (by simpa using h0)
    obtain ⟨L, rfl, hL⟩ := valid_of h
    exact ⟨((a, c), maskL L), by simp [boxI, canon_maskL hL], hv, maskL_lt hL.le⟩
  · rename_i h0
    rw [h] at h0
    simp at h0
theorem chkFGo_of {F : List Bx} (h : OkF F) : chkFGo (F.map boxI) = 0 := by
  induction F with
  | nil => rfl
  | cons b F ih =>
    show (if chkB (boxI b) == 0 then chkFGo (F.map boxI) else chkB (boxI b)) = 0
    rw [chkB_of (h b (List.mem_cons_self ..)), ih (fun c hc => h c (List.mem_cons_of_mem _ hc))]
    rfl
theorem okFGo_of {l : List BoxI} (h : chkFGo l = 0) : ∃ F, l = F.map boxI ∧ OkF F := by
  induction l with
  | nil => exact ⟨[], rfl, fun b hb => by cases hb⟩
  | cons b l ih =>
    unfold chkFGo at h
    split at h
    · rename_i h0
      obtain ⟨B, rfl, hB⟩ := okB_of (by simpa using h0)
      obtain ⟨F, rfl, hF⟩ := ih h
      refine ⟨B :: F, rfl, fun c hc => ?_⟩
      rcases List.mem_cons.1 hc with rfl | hc
      · exact hB
      · exact hF c hc
    · rename_i h0
      rw [h] at h0
      simp at h0
theorem chkF_of {F : List Bx} (h : OkF F) (hl : F.length ≤ 40) : chkF (F.map boxI) = 0 := by
  unfold chkF
  rw [if_neg (by simp; omega)]
  exact chkFGo_of h
theorem okF_of {l : List BoxI} (h : chkF l = 0) : ∃ F, l = F.map boxI ∧ OkF F ∧ F.length ≤ 40 := by
  unfold chkF at h
  split at h
  · omega
  · rename_i h0
    obtain ⟨F, rfl, hF⟩ := okFGo_of h
    exact ⟨F, rfl, hF, by simpa using h0⟩

/-- is a combination of tags in the cube of a box? -/
def inC (b : Bx) (t : Nat) : Bool := hasR (b.1.1 : Nat) (b.1.2 : Nat) (t : Nat)
/-- the numbers that a filter has for a combination of tags -/
def addB (t m : Nat) (b : Bx) : Nat := if inC b t then m ||| b.2 else m
def tabF (F : List Bx) (t : Nat) : Nat := F.foldl (addB t) 0
theorem tabF_snoc (F : List Bx) (b : Bx) (t : Nat) : tabF (F ++ [b]) t = addB t (tabF F t) b := by simp [tabF]
theorem tabF_take {F : List Bx} {k : Nat} {b : Bx} (h : F[k]? = some b) (t : Nat) : tabF (F.take (k + 1)) t = addB t (tabF (F.take k) t) b := by
  obtain ⟨hk, e⟩ := List.getElem?_eq_some_iff.1 h
  rw [List.take_succ_eq_append_getElem hk, e, tabF_snoc]
theorem foldB_bit (F : List Bx) (t m n : Nat) : (F.foldl (addB t) m).testBit n = true ↔ m.testBit n = true ∨ ∃ b ∈ F, inC b t = true ∧ b.2.testBit n = true := by
  induction F generalizing m with
  | nil => simp
  | cons b F ih =>
    rw [List.foldl_cons, ih]
    unfold addB
    split
    · rename_i h
      rw [Nat.testBit_or, Bool.or_eq_true]
      constructor
      · rintro ((h1 | h1) | ⟨c, hc, h2⟩)
        · exact .inl h1
        · exact .inr ⟨b, List.mem_cons_self .., h, h1⟩
        · exact .inr ⟨c, List.mem_cons_of_mem _ hc, h2⟩
      · rintro (h1 | ⟨c, hc, h2⟩)
        · exact .inl (.inl h1)
        · rcases List.mem_cons.1 hc with rfl | hc
          · exact .inl (.inr h2.2)
          · exact .inr ⟨c, hc, h2⟩
    · rename_i h
      constructor
      · rintro (h1 | ⟨c, hc, h2⟩)
        · exact .inl h1
        · exact .inr ⟨c, List.mem_cons_of_mem _ hc, h2⟩
      · rintro (h1 | ⟨c, hc, h2⟩)
        · exact .inl h1
        · rcases List.mem_cons.1 hc with rfl | hc
          · exact absurd h2.1 h
          · exact .inr ⟨c, hc, h2⟩
theorem tabF_bit (F : List Bx) (t n : Nat) : (tabF F t).testBit n = true ↔ ∃ b ∈ F, inC b t = true ∧ b.2.testBit n = true := by
  unfold tabF
  rw [foldB_bit]
  simp
theorem foldB_lt (F : List Bx) (t m : Nat) (hm : m < 2 ^ 32) (h : OkF F) : F.foldl (addB t) m < 2 ^ 32 := by
  induction F generalizing m with
  | nil => exact hm
  | cons b F ih =>
    refine ih _ ?_ (fun c hc => h c (List.mem_cons_of_mem _ hc))
    unfold addB
    split
    · exact Nat.or_lt_two_pow hm (h b (List.mem_cons_self ..)).2
    · exact hm
theorem tabF_lt {F : List Bx} (h : OkF F) (t : Nat) : tabF F t < 2 ^ 32 := foldB_lt F t 0 (by decide) h
theorem OkF.take {F : List Bx} (h : OkF F) (k : Nat) : OkF (F.take k) := fun b hb => h b (List.mem_of_mem_take hb)
end Rm
/- A slice of boxes reads as a list; the contract of filter.Check. -/
namespace Go.Proofs.YtghjfakellaecaaGreat
open Go.RowKit Rm
set_option linter.unusedVariables false

/-- a slice of boxes reads as a list -/
def RdF (w : World) (v : Value) (l : List BoxI) : Prop :=
  ∃ a c, v = .slice a l.length c ∧ l.length ≤ c ∧ (l ≠ [] → ∃ b off, a = some ⟨b, off, none⟩ ∧ b < w.heap.size ∧
    ∀ i p, l[i]? = some p → ∃ sv, w.cell? ⟨b, off + i * 3, none⟩ = some (.int .i64 p.1.1) ∧ w.cell? ⟨b, off + i * 3 + 1, none⟩ = some (.int .i64 p.1.2) ∧ w.cell? ⟨b, off + i * 3 + 2, none⟩ = some sv ∧ Rd2 w sv p.2)
theorem RdF.gr {w w' : World} {v : Value} {l : List BoxI} (h : RdF w v l) (g : Gr w w') : RdF w' v l := by
  obtain ⟨a, c, e, hc, h⟩ := h
  refine ⟨a, c, e, hc, fun hl => ?_⟩
  obtain ⟨b, off, ea, hb, hx⟩ := h hl
  refine ⟨b, off, ea, Nat.lt_of_lt_of_le hb g.le, fun i p hp => ?_⟩
  obtain ⟨sv, h1, h2, h3, h4⟩ := hx i p hp
  exact ⟨sv, (g.cells.1 b _ hb).trans h1, (g.cells.1 b _ hb).trans h2, (g.cells.1 b _ hb).trans h3, h4.gr g⟩
theorem RdF.alloc {w : World} {v : Value} {l : List BoxI} (h : RdF w v l) (o : Obj) : RdF (w.alloc o) v l := h.gr ((Gr.refl w).alloc o)
theorem RdF.nil (w : World) : RdF w (.slice none 0 0) [] := ⟨none, 0, rfl, Nat.le_refl _, fun h => absurd rfl h⟩

theorem rd2_form {w : World} {v : Value} {l : List (Int × Int)} (h : Rd2 w v l) : ∃ a c, v = .slice a l.length c := by
  obtain ⟨a, c, e, _⟩ := h
  exact ⟨a, c, e⟩

theorem fdrop_at {l : List BoxI} {k : Nat} {p : BoxI} (h : l[k]? = some p) : l.drop k = p :: l.drop (k + 1) := by
  obtain ⟨hk, e⟩ := List.getElem?_eq_some_iff.1 h
  rw [List.drop_eq_getElem_cons hk, e]

set_option maxHeartbeats 1000000 in
set_option maxRecDepth 100000 in
theorem fcheck_any (v : Value) (l : List BoxI) (w : World) (hr : RdF w v l) :
    Calls Tryz.prog 47 #[v] w fun e w' => e = .returned (.int .i64 (chkF l)) ∧ Gr w w' := by
  obtain ⟨a, cp, rfl, hcp, hx⟩ := hr
  by_cases h40 : 40 < l.length
  · have e : chkF l = 2 := by simp [chkF, h40]
    rw [e]
    have hz : (40 : Int) < (l.length : Int) := by omega
    clear hx
    go_enter Tryz.func47, Tryz.ntmps47
    go_wp2
    go_ret
    exact ⟨rfl, Gr.refl _⟩
  · have e : chkF l = chkFGo l := by simp [chkF, h40]
    rw [e]
    clear e
    have hz : ¬ (40 : Int) < (l.length : Int) := by omega
    have HX := Lib.hid hx
    clear hx
    go_enter Tryz.func47, Tryz.ntmps47
    go_wp2
    go_loopw [12] (fun i wr => ∃ k : Nat, k ≤ l.length ∧ i = .int .i64 k ∧ Hid (chkFGo l = chkFGo (l.drop k)) ∧ Gr w wr) (fun i _ => l.length - (intOf i).toNat)
    case atStart => exact ⟨0, by omega, rfl, rfl, Gr.refl _⟩
    case round =>
      obtain ⟨k, hk, rfl, hh, hg⟩ := hrel
      generalize wr = wo at *
      by_cases hlt : k < l.length
      · obtain ⟨⟨⟨y, n⟩, s⟩, hp⟩ : ∃ p, l[k]? = some p := ⟨_, List.getElem?_eq_getElem hlt⟩
        obtain ⟨b, off, rfl, hb, hcell⟩ := HX.out (by intro e; rw [e] at hlt; simp at hlt)
        obtain ⟨sv, c1, c2, c3, hs⟩ := hcell k _ hp
        rw [← hg.cells.1 b _ hb] at c1 c2 c3
        simp only at c1 c2 c3 hs
        obtain ⟨sa, sc, rfl⟩ := rd2_form hs
        have hs1 := Lib.hid (hs.gr hg)
        have hbr : b < wo.heap.size := Nat.lt_of_lt_of_le hb hg.le
        have HH : Hid (chkFGo l = if chkB ((y, n), s) == 0 then chkFGo (l.drop (k + 1)) else chkB ((y, n), s)) := by
          rw [hh.out, fdrop_at hp]; rfl
        clear hh hcell hs hp
        have hk16 : (k : Int) ≤ 40 := by omega
        cases hc : (chk y n == 0)
        · have hc' := bne_of' hc
          have E1 : Hid (chkFGo l = chk y n) := by
            have := HH.out
            simp only [chkB, hc, Bool.false_eq_true, if_false] at this
            exact this
          clear HH
          go_wp2_with fail
          refine (check_any _ _ _).mono ?_
          rintro e w1 ⟨rfl, g1⟩
          go_wp2_with fail
          go_ret
          exact ⟨by rw [E1.out]; rfl, (hg.alloc _).trans g1⟩
        · have hc' := bne_of hc
          cases hd : (chkS s == 0)
          · have hd' := sbne_of' hd
            have E1 : Hid (chkFGo l = chkS s) := by
              have := HH.out
              simp only [chkB, hc, if_true, hd, Bool.false_eq_true, if_false] at this
              exact this
            clear HH
            go_wp2_with fail
            refine (check_any _ _ _).mono ?_
            rintro e w1 ⟨rfl, g1⟩
            obtain ⟨k1, k2⟩ := g1.cells
            go_wp2_with fail
            refine (scheck_any _ _ _ ((hs1.out.alloc _).gr g1)).mono ?_
            rintro e w2 ⟨rfl, g2⟩
            go_wp2_with fail
            go_ret
            exact ⟨by rw [E1.out]; rfl, ((hg.alloc _).trans g1).trans g2⟩
          · have hd' := sbne_of hd
            have E1 : Hid (chkFGo l = chkFGo (l.drop (k + 1))) := by
              have := HH.out
              simp only [chkB, hc, if_true, hd] at this
              exact this
            clear HH
            go_wp2_with fail
            refine (check_any _ _ _).mono ?_
            rintro e w1 ⟨rfl, g1⟩
            obtain ⟨k1, k2⟩ := g1.cells
            go_wp2_with fail
            refine (scheck_any _ _ _ ((hs1.out.alloc _).gr g1)).mono ?_
            rintro e w2 ⟨rfl, g2⟩
            go_wp2_with fail
            go_roundw
            case rel => exact ⟨k + 1, by omega, by go_num, E1, ((hg.alloc _).trans g1).trans g2⟩
            case measure => simp [intOf]; omega
      · obtain rfl : k = l.length := by omega
        have E1 : Hid (chkFGo l = 0) := by rw [hh.out, List.drop_length]; rfl
        clear hh
        go_wp2
        go_ret
        exact ⟨by rw [E1.out]; rfl, hg⟩
end Go.Proofs.YtghjfakellaecaaGreat
/- The contracts of package filter's has, setOf and tableOf. -/
namespace Rm
open Go Go.RowKit
theorem u64_pow (n : Nat) (h : n ≤ 32) : IntKind.u64.wrap (2 ^ n) = ((2 ^ n : Nat) : Int) := by
  rw [IntKind.wrap_u64]
  have h1 : (2 : Nat) ^ n ≤ 2 ^ 32 := Nat.pow_le_pow_right (by omega) h
  have h2 : ((2 ^ n : Nat) : Int) = (2 : Int) ^ n := by simp
  rw [← h2]
  generalize 2 ^ n = x at *
  omega
theorem bit_eq64 (m n : Nat) (hm : m < 2 ^ 32) (hn : n < 32) : (bits .and .u64 (m : Int) (IntKind.u64.wrap (2 ^ n)) != 0) = m.testBit n := by
  have h1 : (2 : Nat) ^ n < 2 ^ 32 := Nat.pow_lt_pow_right (by omega) hn
  rw [u64_pow n (by omega), u64_and_nat m (2 ^ n) (by omega) (by omega), ← and_pow_bne]
  rw [Bool.eq_iff_iff]
  simp only [bne_iff_ne, ne_eq]
  omega
/-- the numbers from f to t -/
theorem fill_bit (f t i : Nat) (h : f ≤ t) : (2 ^ t - 2 ^ f).testBit i = decide (f ≤ i ∧ i < t) := by
  obtain ⟨d, rfl⟩ : ∃ d, t = f + d := ⟨t - f, by omega⟩
  have e : 2 ^ (f + d) - 2 ^ f = 2 ^ f * (2 ^ d - 1) := by rw [Nat.pow_add, Nat.mul_sub, Nat.mul_one]
  rw [e, Nat.testBit_two_pow_mul, Nat.testBit_two_pow_sub_one, Bool.eq_iff_iff]
  simp
  omega
theorem or_fill (m f t : Nat) (h : f ≤ t) : m ||| (2 ^ t - 2 ^ f) = orTo m f (t - f) := by
  apply Nat.eq_of_testBit_eq
  intro i
  rw [Nat.testBit_or, fill_bit f t i h, orTo_bit]
  congr 2
  have : f + (t - f) = t := by omega
  rw [this]
theorem fill_eq (m f t : Nat) (hm : m < 2 ^ 32) (h : f ≤ t) (ht : t ≤ 32) : bits .or .u64 (m : Int) (IntKind.u64.wrap (IntKind.u64.wrap (2 ^ t) - IntKind.u64.wrap (2 ^ f))) = ((orTo m f (t - f) : Nat) : Int) := by
  have h1 : (2 : Nat) ^ t ≤ 2 ^ 32 := Nat.pow_le_pow_right (by omega) ht
  have h2 : (2 : Nat) ^ f ≤ 2 ^ t := Nat.pow_le_pow_right (by omega) h
  rw [u64_pow t ht, u64_pow f (by omega), ← or_fill m f t h]
  have e : IntKind.u64.wrap (((2 ^ t : Nat) : Int) - ((2 ^ f : Nat) : Int)) = ((2 ^ t - 2 ^ f : Nat) : Int) := by
    rw [IntKind.wrap_u64]
    generalize 2 ^ t = x at *
    generalize 2 ^ f = y at *
    omega
  have h3 : 2 ^ t - 2 ^ f < 18446744073709551616 := Nat.lt_of_le_of_lt (Nat.sub_le _ _) (by omega)
  rw [e, u64_or_nat m _ (by omega) h3]
/-- a table as an array -/
def tArr (T : Nat → Nat) : Array Value := ((List.range 16).map fun i => Value.int .u64 (T i : Nat)).toArray
theorem tArr_size (T : Nat → Nat) : (tArr T).size = 16 := by simp [tArr]
theorem tArr_at (T : Nat → Nat) (i : Nat) (h : i < 16) : (tArr T)[i]? = some (.int .u64 (T i : Nat)) := by simp [tArr, h]
theorem tArr_one (T : Nat → Nat) : (tArr T).all (·.oneCell') = true := by
  simp [tArr, Value.oneCell']
theorem tArr_ext {s t : Nat → Nat} (h : ∀ i, i < 16 → s i = t i) : tArr s = tArr t := by
  unfold tArr
  congr 1
  apply List.map_congr_left
  intro i hi
  rw [h i (List.mem_range.1 hi)]
theorem tArr_set (s : Nat → Nat) (k : Nat) (b : Nat) (hk : k < 16) : (tArr s).setIfInBounds k (.int .u64 (b : Nat)) = tArr (fun i => if i = k then b else s i) := by
  apply Array.ext
  · simp [tArr]
  · intro i h1 h2
    simp [tArr] at h1 h2 ⊢
    by_cases e : i = k
    · subst e; simp
    · have : ¬ k = i := fun h => e h.symm
      simp [this, e]
end Rm
namespace Go.Proofs.YtghjfakellaecaaGreat
open Go.RowKit Rm
set_option linter.unusedVariables false

set_option maxHeartbeats 400000 in
set_option maxRecDepth 100000 in
theorem fhas_any (m n : Nat) (w : World) (hm : m < 2 ^ 32) (hn : n < 32) :
    Calls Tryz.prog 69 #[.int .u64 m, .int .i64 n] w fun e w' => e = .returned (.bool (m.testBit n)) ∧ w = w' := by
  have h1 : ((n : Nat) : Int) < 32 := by omega
  have HB := Lib.hid (bit_eq64 m n hm hn)
  clear hm
  go_enter Tryz.func69, Tryz.ntmps69
  go_wp2
  go_ret
  exact ⟨by rw [← HB.out]; rfl, rfl⟩

set_option maxHeartbeats 1000000 in
set_option maxRecDepth 100000 in
theorem setOf_any (v : Value) (L : List (Nat × Nat)) (w : World) (hr : Rd2 w v (pairs L)) (hv : VF 0 L) :
    Calls Tryz.prog 118 #[v] w fun e w' => e = .returned (.int .u64 (maskL L : Nat)) ∧ Gr w w' := by
  obtain ⟨a, cp, rfl, hcp, hx⟩ := hr
  rw [pairs_len] at hcp
  rw [pairs_len]
  have HX := Lib.hid hx
  have HV := Lib.hid hv
  have hlen := hv.len16
  have hlen' : (L.length : Int) ≤ 16 := by omega
  clear hx hv
  go_enter Tryz.func118, Tryz.ntmps118
  go_wp2
  go_loopw [3, 8] (fun m i wr => ∃ k : Nat, k ≤ L.length ∧ i = .int .i64 k ∧ m = .int .u64 (maskL (L.take k) : Nat) ∧ Gr w wr) (fun _ i _ => L.length - (intOf i).toNat)
  case atStart => exact ⟨0, by omega, rfl, rfl, Gr.refl _⟩
  case round =>
    obtain ⟨k, hk, rfl, rfl, hg⟩ := hrel
    generalize wr = wo at *
    by_cases hlt : k < L.length
    · obtain ⟨⟨f, t⟩, hp⟩ : ∃ p, L[k]? = some p := ⟨_, List.getElem?_eq_getElem hlt⟩
      obtain ⟨b, off, rfl, hb, hcell⟩ := HX.out (by intro e; rw [← pairs_len, e] at hlt; simp at hlt)
      have c1 : w.cell? ⟨b, off + k * 2, none⟩ = some (.int .i64 f) := (hcell k _ (pairs_at hp)).1
      have c2 : w.cell? ⟨b, off + k * 2 + 1, none⟩ = some (.int .i64 t) := (hcell k _ (pairs_at hp)).2
      rw [← hg.cells.1 b _ hb] at c1 c2
      have hbr : b < wo.heap.size := Nat.lt_of_lt_of_le hb hg.le
      have hft : f < t ∧ t ≤ 32 := HV.out.le (f, t) (List.mem_of_getElem? hp)
      have HM := Lib.hid (maskL_take hp)
      have hml : maskL (L.take k) < 2 ^ 32 := maskL_lt (fun p hp => HV.out.le p (List.mem_of_mem_take hp))
      clear hcell
      generalize maskL (L.take k) = m at *
      have HF := Lib.hid (fill_eq m f t hml (by omega) hft.2)
      have hk16 : (k : Int) ≤ 16 := by omega
      have hf32 : (f : Int) < 32 := by omega
      have ht32 : (t : Int) ≤ 32 := by omega
      clear hml
      go_wp2
      go_quiet (fail)
      go_wp2
      go_roundw
      case rel => exact ⟨k + 1, by omega, by go_num, by rw [HM.out, ← HF.out], (hg.alloc _).drewN _⟩
      case measure => simp [intOf]; omega
    · obtain rfl : k = L.length := by omega
      go_wp2
      go_ret
      exact ⟨by rw [List.take_length]; rfl, hg⟩

theorem table_info : (Tryz.prog.info? 128).map (·.size) = some 16 := by kernel_rfl
/-- the table in the making: below j the box has been added -/
def midT (F : List Bx) (b : Bx) (k j t : Nat) : Nat := if t < j then addB t (tabF (F.take k) t) b else tabF (F.take k) t
/-- where the loops stand -/
def TabAt (w wr : World) (T : Nat → Nat) : Prop := Gr w wr ∧ wr.heap[w.heap.size + 1]? = some (.cells (tArr T) 128 (0, 0)) ∧ wr.heap[w.heap.size]? = some (.cells (tArr fun _ => 0) 128 (0, 0))
theorem TabAt.more {w wr w' : World} {T : Nat → Nat} (h : TabAt w wr T) (g : Gr wr w') : TabAt w w' T :=
  ⟨h.1.trans g, (Below.block g _ (Blk_lt h.2.1)).trans h.2.1, (Below.block g _ (Blk_lt h.2.2)).trans h.2.2⟩
theorem TabAt.set {w wr : World} {T : Nat → Nat} (h : TabAt w wr T) (k m : Nat) (hk : k < 16) : TabAt w (wr.setCell ⟨w.heap.size + 1, k, none⟩ (.int .u64 (m : Nat))) (fun i => if i = k then m else T i) := by
  refine ⟨h.1.setCell (by simp) _, ?_, ?_⟩
  · rw [heap_setCell_same _ _ _ _ _ _ h.2.1, tArr_set _ _ _ hk]
  · rw [heap_setCell_other _ _ _ _ (by simp)]; exact h.2.2
theorem TabAt.ext {w wr : World} {T T' : Nat → Nat} (h : TabAt w wr T) (e : ∀ i, i < 16 → T i = T' i) : TabAt w wr T' := by rw [TabAt, ← tArr_ext e]; exact h
/-- a box alone in its block -/
def Three (w : World) (b : Nat) (y n : Int) (s : Value) : Prop := b < w.heap.size ∧ w.cell? ⟨b, 0, none⟩ = some (.int .i64 y) ∧ w.cell? ⟨b, 1, none⟩ = some (.int .i64 n) ∧ w.cell? ⟨b, 2, none⟩ = some s
theorem Three.gr {w w' : World} {b : Nat} {y n : Int} {s : Value} (h : Three w b y n s) (g : Gr w w') : Three w' b y n s :=
  ⟨Nat.lt_of_lt_of_le h.1 g.le, (g.cells.1 b 0 h.1).trans h.2.1, (g.cells.1 b 1 h.1).trans h.2.2.1, (g.cells.1 b 2 h.1).trans h.2.2.2⟩
theorem Three.new (w : World) (y n : Int) (s : Value) (t : TypeId) : Three (w.alloc (.cells #[.int .i64 y, .int .i64 n, s] t)) w.heap.size y n s := by
  refine ⟨by simp, ?_, ?_, ?_⟩ <;> simp [go_sem]
theorem Three.far {w : World} {b : Nat} {y n : Int} {s : Value} (h : Three w b y n s) {p : Addr} (hp : b ≠ p.block) (u : Value) : Three (w.setCell p u) b y n s := by
  obtain ⟨h1, h2, h3, h4⟩ := h
  refine ⟨by simpa using h1, ?_, ?_, ?_⟩
  · rw [World.cell?_setCell_other _ _ _ _ (fun e => hp (by rw [e]))]; exact h2
  · rw [World.cell?_setCell_other _ _ _ _ (fun e => hp (by rw [e]))]; exact h3
  · rw [World.cell?_setCell_other _ _ _ _ (fun e => hp (by rw [e]))]; exact h4

set_option maxHeartbeats 1000000 in
set_option maxRecDepth 100000 in
theorem tableOf_any (v : Value) (F : List Bx) (w : World) (hr : RdF w v (F.map boxI)) (hF : OkF F) (hl : F.length ≤ 40) :
    Calls Tryz.prog 70 #[v] w fun e w' => e = .returned (.agg (tArr (tabF F))) ∧ Gr w w' := by
  obtain ⟨a, cp, rfl, hcp, hx⟩ := hr
  rw [List.length_map] at hcp
  rw [List.length_map]
  have HX := Lib.hid hx
  have HF := Lib.hid hF
  have hlen' : (F.length : Int) ≤ 40 := by omega
  clear hx hF
  go_enter Tryz.func70, Tryz.ntmps70
  go_wp2
  go_loopw [12] (fun i wr => ∃ k : Nat, k ≤ F.length ∧ i = .int .i64 k ∧ TabAt w wr (tabF (F.take k))) (fun i _ => F.length - (intOf i).toNat)
  case atStart =>
    refine ⟨0, by omega, rfl, ((Gr.refl _).alloc _).alloc _, ?_, ?_⟩
    · rw [heap_alloc2_new]; rfl
    · rw [heap_alloc2_old]; rfl
  case round =>
    obtain ⟨k, hk, rfl, hat⟩ := hrel
    generalize wr = wo at *
    have hg := hat.1
    by_cases hlt : k < F.length
    · obtain ⟨⟨⟨y, n⟩, m⟩, hp⟩ : ∃ p, F[k]? = some p := ⟨_, List.getElem?_eq_getElem hlt⟩
      obtain ⟨b, off, rfl, hb, hcell⟩ := HX.out (by intro e; rw [← List.length_map (f := boxI), e] at hlt; simp at hlt)
      obtain ⟨sv, c1, c2, c3, hs⟩ := hcell k (boxI ((y, n), m)) (by simp [hp])
      rw [← hg.cells.1 b _ hb] at c1 c2 c3
      simp only [boxI] at c1 c2 c3 hs
      obtain ⟨sa, sc, rfl⟩ := rd2_form hs
      have hok : OkB ((y, n), m) := HF.out _ (List.mem_of_getElem? hp)
      have hs1 := Lib.hid (hs.gr hg)
      have hbr : b < wo.heap.size := Nat.lt_of_lt_of_le hb hg.le
      have HT := Lib.hid (fun t => tabF_take hp t)
      have HO := Lib.hid hok
      have HL := Lib.hid (fun t => tabF_lt (HF.out.take k) t)
      have hk16 : (k : Int) ≤ 40 := by omega
      have HA := Lib.hid hat
      have hmk := maskL_canon hok.2
      clear hcell hs hp hat hok
      go_wp2_with fail
      refine (setOf_any _ _ _ (hs1.out.alloc _) (canon_VF m)).mono ?_
      rw [hmk]
      rintro e w1 ⟨rfl, g1⟩
      have T1 := Lib.hid ((Three.new wo y n (.slice sa (pairs (canon m)).length sc) 96).gr g1)
      have A1 := Lib.hid ((HA.out.more ((Gr.refl _).alloc (.cells #[.int .i64 y, .int .i64 n, .slice sa (pairs (canon m)).length sc] 96))).more g1)
      have hbb : wo.heap.size ≠ w.heap.size + 1 := by have := Blk_lt HA.out.2.1; omega
      clear HA hs1 hg c1 c2 c3 g1 hmk
      generalize wo.heap.size = BB at *
      go_wp2_with fail
      go_loopw [19] (fun jj wi => ∃ j : Nat, j ≤ 16 ∧ jj = .int .i64 j ∧ TabAt w wi (midT F ((y, n), m) k j) ∧ Three wi BB y n (.slice sa (pairs (canon m)).length sc)) (fun jj _ => 16 - (intOf jj).toNat)
      case atStart => exact ⟨0, by omega, rfl, A1.out.ext (fun i _ => by simp [midT]), T1.out⟩
      case round =>
        obtain ⟨j, hj, rfl, hti, h3⟩ := hrel
        by_cases hjt : j < 16
        · have hin : hasR (y : Int) (n : Int) (j : Int) = inC ((y, n), m) j := rfl
          have HTI := Lib.hid hti
          have H3 := Lib.hid h3
          obtain ⟨t1, t2, t3, t4⟩ := h3
          have hj16 : (j : Int) < 16 := by omega
          clear hti
          cases hc : inC ((y, n), m) j
          · rw [hc] at hin
            have E : Hid (∀ i, i < 16 → midT F ((y, n), m) k j i = midT F ((y, n), m) k (j + 1) i) := by
              intro i hi
              unfold midT
              by_cases e1 : i < j
              · rw [if_pos e1, if_pos (by omega)]
              · rw [if_neg e1]
                by_cases e2 : i < j + 1
                · obtain rfl : i = j := by omega
                  rw [if_pos e2]
                  simp [addB, hc]
                · rw [if_neg e2]
            clear hc
            go_wp2_with fail
            refine (has_any _ _ _ _).mono ?_
            rw [hin]
            rintro e w2 ⟨rfl, g2⟩
            have A2 := Lib.hid (HTI.out.more g2)
            have T2 := Lib.hid (H3.out.gr g2)
            clear g2
            go_wp2_with fail
            go_roundw
            case rel => exact ⟨j + 1, by omega, by go_num, A2.out.ext E.out, T2.out⟩
            case measure => simp [intOf]; omega
          · rw [hc] at hin
            have E : Hid (∀ i, i < 16 → (if i = j then (tabF (F.take k) j ||| m) else midT F ((y, n), m) k j i) = midT F ((y, n), m) k (j + 1) i) := by
              intro i hi
              unfold midT
              by_cases e1 : i < j
              · rw [if_neg (by omega), if_pos e1, if_pos (by omega)]
              · by_cases e2 : i < j + 1
                · obtain rfl : i = j := by omega
                  rw [if_pos rfl, if_pos e2]
                  simp [addB, hc]
                · rw [if_neg (by omega), if_neg e1, if_neg e2]
            have HU := Lib.hid (u64_or_nat (tabF (F.take k) j) m (by have := HL.out j; omega) (by have := HO.out.2; omega))
            clear hc
            go_wp2_with fail
            refine (has_any _ _ _ _).mono ?_
            rw [hin]
            rintro e w2 ⟨rfl, g2⟩
            have A2 := Lib.hid (HTI.out.more g2)
            have T2 := Lib.hid (H3.out.gr g2)
            have hc : w2.cell? ⟨w.heap.size + 1, j, none⟩ = some (.int .u64 (tabF (F.take k) j : Nat)) := by
              rw [cell_of_row _ _ _ _ _ _ A2.out.2.1, tArr_at _ j hjt]
              simp [midT]
            have hfz := frozen_of_row _ _ j _ _ A2.out.2.1
            clear g2
            go_wp2_with fail
            go_roundw
            case rel => exact ⟨j + 1, by omega, by go_num, by have := (A2.out.set j _ hjt).ext E.out; rw [← HU.out] at this; exact this, T2.out.far hbb _⟩
            case measure => simp [intOf]; omega
        · obtain rfl : j = 16 := by omega
          have HTI := Lib.hid hti
          clear hti
          go_wp2
          go_roundw
          case rel => exact ⟨k + 1, by omega, by go_num, HTI.out.ext (fun i hi => by rw [HT.out i]; simp [midT, hi])⟩
          case measure => simp [intOf]; omega
    · obtain rfl : k = F.length := by omega
      rw [List.take_length] at hat
      have HS : Hid ((Tryz.prog.info? 128).map (·.size) = some (tArr (tabF F)).size) := by rw [tArr_size]; exact table_info
      have HO : Hid ((tArr fun _ => 0).size = (tArr (tabF F)).size) := by rw [tArr_size, tArr_size]; rfl
      have H1 := Lib.hid (tArr_one (tabF F))
      have HB := Lib.hid hat.2.1
      have HR := Lib.hid hat.2.2
      clear hat
      go_wp2_with (first | (refine wpList_load_row rfl 128 _ rfl (w.heap.size + 1) rfl 128 _ (0, 0) _ HB.out Tryz.underlying128 rfl HS.out ?_) | (refine wpList_store_row rfl 128 _ _ rfl w.heap.size _ rfl rfl 128 _ HR.out HS.out HO.out H1.out ?_))
      refine bodyPost_ret (v := .agg (tArr (tabF F))) (results_cell_row Tryz.results70 _ _ w.heap.size 128 _ (0, 0) _ rfl (setRow_heap _ _ _ _ _ _ HR.out) Tryz.underlying128 rfl HS.out) rfl ⟨rfl, ?_⟩
      exact hg.setRow (Nat.le_refl _) _
end Go.Proofs.YtghjfakellaecaaGreat
/- The contracts of package filter's combine. -/
namespace Rm
open Go Go.RowKit
theorem andNot64 (a b : Nat) (ha : a < 2 ^ 32) (hb : b < 2 ^ 32) : a &&& (18446744073709551615 - b) = lessM a b := by
  apply Nat.eq_of_testBit_eq
  intro i
  rw [lessM_bit a b i hb ha, Nat.testBit_and]
  have e : 18446744073709551615 - b = 2 ^ 64 - (b + 1) := by omega
  rw [e, Nat.testBit_two_pow_sub_succ (by omega)]
  by_cases h : i < 64
  · simp [h]
  · have h2 : a.testBit i = false := Nat.testBit_lt_two_pow (Nat.lt_of_lt_of_le ha (Nat.pow_le_pow_right (by omega) (by omega)))
    simp [h2]
theorem results_row_tmp {P : Program} {fn : Func} {p q : Tmp} {ty : TypeId} (h : fn.results = #[.cell p ty, .tmp q]) (tmps : Array Value) (w : World) (g : Nat) (t : TypeId) (cs : Array Value) (fr : Nat × Nat) (d : TypeDesc) (v : Value)
    (hp : tmps.getD p undef = .pointer (some ⟨g, 0, none⟩)) (hq : tmps.getD q undef = v) (hg : w.heap[g]? = some (.cells cs t fr))
    (hu : P.underlying ty = some d) (hd : (match d with | .struct _ | .array _ _ => true | _ => false) = true) (hi : (P.info? ty).map (·.size) = some cs.size) :
    (results fn tmps).run P w = .ok (.tuple #[.agg cs, v]) w := by
  have hp' : tmps[p]?.getD undef = .pointer (some ⟨g, 0, none⟩) := by simpa using hp
  have hq' : tmps[q]?.getD undef = v := by simpa using hq
  simp [results, h, hp', hq', asAddr, run_loadVar_row w g t ty cs fr d hg hu hd hi]
theorem chkF2_bad {l r : List BoxI} (h : (chkF l == 0) = false) : chkF2 l r = chkF l := by simp [chkF2, h]
theorem chkF2_ok {l r : List BoxI} (h : (chkF l == 0) = true) : chkF2 l r = chkF r := by simp [chkF2, h]
end Rm
namespace Go.Proofs.YtghjfakellaecaaGreat
open Go.RowKit Rm
set_option linter.unusedVariables false

/-- a function of two sets -/
def OpU (f : Nat) (g : Nat → Nat → Nat) : Prop := ∀ (a b : Nat), a < 2 ^ 32 → b < 2 ^ 32 → ∀ w : World, Calls Tryz.prog f #[.int .u64 a, .int .u64 b] w fun e w' => e = .returned (.int .u64 (g a b : Nat)) ∧ w' = w

theorem uop_join : OpU 74 (fun a b => a ||| b) := by
  intro a b ha hb w
  have e := u64_or_nat a b (by omega) (by omega)
  skip
  have E := Lib.hid e
  clear e
  go_enter Tryz.func74, Tryz.ntmps74
  go_wp2
  go_ret
  exact ⟨by rw [← E.out]; rfl, rfl⟩

theorem uop_meet : OpU 72 (fun a b => a &&& b) := by
  intro a b ha hb w
  have e := u64_and_nat a b (by omega) (by omega)
  skip
  have E := Lib.hid e
  clear e
  go_enter Tryz.func72, Tryz.ntmps72
  go_wp2
  go_ret
  exact ⟨by rw [← E.out]; rfl, rfl⟩

theorem uop_within : OpU 150 (fun a b => lessM a b) := by
  intro a b ha hb w
  have e := u64_andNot_nat a b (by omega) (by omega)
  rw [andNot64 a b ha hb] at e
  have E := Lib.hid e
  clear e
  go_enter Tryz.func150, Tryz.ntmps150
  go_wp2
  go_ret
  exact ⟨by rw [← E.out]; rfl, rfl⟩

set_option maxHeartbeats 1000000 in
set_option maxRecDepth 100000 in
theorem fcombine_bad (f : Nat) (v v' : Value) (l r : List BoxI) (w : World) (hl : RdF w v l) (hr : RdF w v' r) (hc : (chkF2 l r == 0) = false) :
    Calls Tryz.prog 71 #[v, v', .func (.func f) #[] #[]] w fun e w' => e = .returned (.tuple #[.agg (tArr fun _ => 0), .int .i64 (chkF2 l r)]) ∧ Gr w w' := by
  have HS : Hid ((Tryz.prog.info? 128).map (·.size) = some (tArr fun _ => 0).size) := by rw [tArr_size]; exact table_info
  have H1 := Lib.hid (tArr_one fun _ => 0)
  have HL := Lib.hid hl
  have HR := Lib.hid hr
  clear hl hr
  cases h1 : (chkF l == 0)
  · rw [chkF2_bad h1]
    have h1' := bne_of' h1
    clear hc
    go_enter Tryz.func71, Tryz.ntmps71
    go_wp2_with fail
    refine (fcheck_any _ _ _ (HL.out.alloc _)).mono ?_
    rintro e w1 ⟨rfl, g1⟩
    have HB : Hid (w1.heap[w.heap.size]? = some (.cells (tArr fun _ => 0) 128 (0, 0))) := (Below.block g1 _ (by simp)).trans (heap_alloc_new _ _)
    have G1 := ((Gr.refl w).alloc _).trans g1
    clear g1
    go_wp2_with (refine wpList_store_row rfl 128 (.tmp 6) (.tmp 17) rfl w.heap.size (tArr fun _ => 0) rfl rfl 128 _ HB.out HS.out rfl H1.out ?_)
    refine bodyPost_ret (v := .tuple #[.agg (tArr fun _ => 0), .int .i64 (chkF l)]) (results_row_tmp Tryz.results71 _ _ w.heap.size 128 _ (0, 0) _ _ rfl rfl (setRow_heap _ _ _ _ _ _ HB.out) Tryz.underlying128 rfl HS.out) rfl ⟨rfl, ?_⟩
    exact G1.setRow (Nat.le_refl _) _
  · rw [chkF2_ok h1] at hc
    rw [chkF2_ok h1]
    have h1' := bne_of h1
    have hc' := bne_of' hc
    go_enter Tryz.func71, Tryz.ntmps71
    go_wp2_with fail
    refine (fcheck_any _ _ _ (HL.out.alloc _)).mono ?_
    rintro e w1 ⟨rfl, g1⟩
    have HB : Hid (w1.heap[w.heap.size]? = some (.cells (tArr fun _ => 0) 128 (0, 0))) := (Below.block g1 _ (by simp)).trans (heap_alloc_new _ _)
    have G1 := ((Gr.refl w).alloc _).trans g1
    clear g1
    go_wp2_with fail
    refine (fcheck_any _ _ _ (HR.out.gr G1)).mono ?_
    rintro e w2 ⟨rfl, g2⟩
    have HB2 : Hid (w2.heap[w.heap.size]? = some (.cells (tArr fun _ => 0) 128 (0, 0))) := (Below.block g2 _ (Blk_lt HB.out)).trans HB.out
    have G2 := G1.trans g2
    clear g2 HB
    go_wp2_with (refine wpList_store_row rfl 128 (.tmp 6) (.tmp 23) rfl w.heap.size (tArr fun _ => 0) rfl rfl 128 _ HB2.out HS.out rfl H1.out ?_)
    refine bodyPost_ret (v := .tuple #[.agg (tArr fun _ => 0), .int .i64 (chkF r)]) (results_row_tmp Tryz.results71 _ _ w.heap.size 128 _ (0, 0) _ _ rfl rfl (setRow_heap _ _ _ _ _ _ HB2.out) Tryz.underlying128 rfl HS.out) rfl ⟨rfl, ?_⟩
    exact G2.setRow (Nat.le_refl _) _
end Go.Proofs.YtghjfakellaecaaGreat
/- The contract of package filter's combine over valid filters. -/
namespace Go.Proofs.YtghjfakellaecaaGreat
open Go.RowKit Rm
set_option linter.unusedVariables false

/-- two tables, combined below j -/
def midC (g : Nat → Nat → Nat) (T U : Nat → Nat) (j t : Nat) : Nat := if t < j then g (T t) (U t) else T t
/-- where combine's loop stands -/
def CombAt (w wr : World) (b : Nat) (T U : Nat → Nat) : Prop :=
  Gr w wr ∧ w.heap.size < b ∧ wr.heap[w.heap.size]? = some (.cells (tArr fun _ => 0) 128 (0, 0)) ∧ wr.heap[b]? = some (.cells (tArr T) 128 (0, 0)) ∧ wr.heap[b + 1]? = some (.cells (tArr U) 128 (0, 0))
theorem CombAt.set {w wr : World} {b : Nat} {T U : Nat → Nat} (h : CombAt w wr b T U) (k m : Nat) (hk : k < 16) : CombAt w ((wr.setCell ⟨b, k, none⟩ (.int .u64 (m : Nat))).drew) b (fun i => if i = k then m else T i) U := by
  obtain ⟨g, hlt, h0, h1, h2⟩ := h
  refine ⟨(g.setCell (by simp; omega) _).drew, hlt, ?_, ?_, ?_⟩
  · show (wr.setCell _ _).heap[_]? = _
    rw [heap_setCell_other _ _ _ _ (by show w.heap.size ≠ b; omega)]; exact h0
  · show (wr.setCell _ _).heap[_]? = _
    rw [heap_setCell_same _ _ _ _ _ _ h1, tArr_set _ _ _ hk]
  · show (wr.setCell _ _).heap[_]? = _
    rw [heap_setCell_other _ _ _ _ (by simp)]; exact h2
theorem CombAt.ext {w wr : World} {b : Nat} {T T' U : Nat → Nat} (h : CombAt w wr b T U) (e : ∀ i, i < 16 → T i = T' i) : CombAt w wr b T' U := by rw [CombAt, ← tArr_ext e]; exact h
theorem combAt_start {w w4 : World} {A B : Array Value} {T U : Nat → Nat} (g : Gr w w4) (hlt : w.heap.size < w4.heap.size) (h0 : w4.heap[w.heap.size]? = some (.cells (tArr fun _ => 0) 128 (0, 0))) :
    CombAt w ((((w4.alloc (.cells A 128)).alloc (.cells B 128)).setRow w4.heap.size (tArr T)).setRow (w4.heap.size + 1) (tArr U)) w4.heap.size T U := by
  refine ⟨(((g.alloc _).alloc _).setRow g.le _).setRow (by have := g.le; omega) _, hlt, ?_, ?_, ?_⟩
  · rw [setRow_other _ _ _ _ (by omega), setRow_other _ _ _ _ (by omega), Below.heap_alloc _ _ _ (by simp; omega), Below.heap_alloc _ _ _ hlt]; exact h0
  · rw [setRow_other _ _ _ _ (by omega)]
    exact setRow_heap _ _ _ _ _ _ (heap_alloc2_old w4 _ _)
  · refine setRow_heap _ _ B _ _ _ ?_
    rw [setRow_other _ _ _ _ (by omega)]
    exact heap_alloc2_new w4 _ _

end Go.Proofs.YtghjfakellaecaaGreat

/- Joined: FilE, FilF, FilG, FilH, FilI, FilJ. -/
/- The contract of package filter's spans; the plain mathematics of blocks and merge. -/
namespace Rm
open Go Go.RowKit
/-- the numbers of a mask, below k -/
def bitsL (m : Nat) : Nat → List Int
  | 0 => []
  | k + 1 => if m.testBit k then bitsL m k ++ [(k : Int)] else bitsL m k
theorem bitsL_yes {m k : Nat} (h : m.testBit k = true) : bitsL m (k + 1) = bitsL m k ++ [(k : Int)] := by simp [bitsL, h]
theorem bitsL_no {m k : Nat} (h : m.testBit k = false) : bitsL m (k + 1) = bitsL m k := by simp [bitsL, h]
theorem bitsL_len (m : Nat) : ∀ k, (bitsL m k).length ≤ k
  | 0 => Nat.le_refl _
  | k + 1 => by
    have := bitsL_len m k
    unfold bitsL
    split
    · simp; omega
    · omega
theorem bitsL_mem (m : Nat) (x : Int) : ∀ k, x ∈ bitsL m k ↔ ∃ i : Nat, i < k ∧ x = i ∧ m.testBit i = true
  | 0 => by simp [bitsL]
  | k + 1 => by
    unfold bitsL
    split
    · rename_i h
      rw [List.mem_append, bitsL_mem m x k]
      constructor
      · rintro (⟨i, a, b, c⟩ | hx)
        · exact ⟨i, by omega, b, c⟩
        · exact ⟨k, by omega, by simpa using hx, h⟩
      · rintro ⟨i, a, b, c⟩
        rcases Nat.lt_or_ge i k with d | d
        · exact .inl ⟨i, d, b, c⟩
        · obtain rfl : i = k := by omega
          exact .inr (by simp [b])
    · rename_i h
      rw [bitsL_mem m x k]
      constructor
      · rintro ⟨i, a, b, c⟩; exact ⟨i, by omega, b, c⟩
      · rintro ⟨i, a, b, c⟩
        refine ⟨i, ?_, b, c⟩
        rcases Nat.lt_or_ge i k with d | d
        · exact d
        · obtain rfl : i = k := by omega
          exact absurd c h
theorem bitsL_num (m : Nat) : (bitsL m 32).all numB = true := by
  rw [List.all_eq_true]
  intro x hx
  obtain ⟨i, a, rfl, _⟩ := (bitsL_mem m x 32).1 hx
  simp [numB]
  omega
theorem foldI_bit (l : List Int) (m i : Nat) : (l.foldl (fun m x => m ||| 2 ^ x.toNat) m).testBit i = true ↔ m.testBit i = true ∨ ∃ x ∈ l, x.toNat = i := by
  induction l generalizing m with
  | nil => simp
  | cons x l ih =>
    rw [List.foldl_cons, ih, Nat.testBit_or, Nat.testBit_two_pow]
    simp [or_assoc]
theorem maskI_bit (l : List Int) (i : Nat) : (maskI l).testBit i = true ↔ ∃ x ∈ l, x.toNat = i := by
  unfold maskI
  rw [foldI_bit]
  simp
theorem maskI_bitsL {m : Nat} (h : m < 2 ^ 32) : maskI (bitsL m 32) = m := by
  apply Nat.eq_of_testBit_eq
  intro i
  rw [Bool.eq_iff_iff, maskI_bit]
  constructor
  · rintro ⟨x, hx, rfl⟩
    obtain ⟨j, _, rfl, hj⟩ := (bitsL_mem m x 32).1 hx
    simpa using hj
  · intro hi
    refine ⟨(i : Int), (bitsL_mem m i 32).2 ⟨i, ?_, rfl, hi⟩, by simp⟩
    rcases Nat.lt_or_ge i 32 with c | c
    · exact c
    · have := Nat.testBit_lt_two_pow (Nat.lt_of_lt_of_le h (Nat.pow_le_pow_right (by omega) c))
      rw [this] at hi; cases hi
/-- the cells of a list of integers -/
def flat1 (l : List Int) : List Value := l.map fun x => .int .i64 x
theorem new1 (w : World) (v : Value) (t : TypeId) : ∀ j u, ([v] : List Value)[j]? = some u → (w.alloc (.cells #[v] t)).cell? ((⟨w.heap.size, 0, none⟩ : Addr).add j) = some u := by
  intro j u hu
  match j with
  | 0 => simp at hu; subst hu; simp [go_sem, Addr.add]
  | j + 1 => simp at hu
end Rm
namespace Go.Proofs.YtghjfakellaecaaGreat
open Go.RowKit Rm
set_option linter.unusedVariables false
theorem int_info : (Tryz.prog.info? 3).map (fun i => (i.zero, i.size, i.bytes)) = some (some (.int .i64 0), 1, 8) := by kernel_rfl
theorem Rd1.own {w : World} {base : Nat} {e : TypeId} {v : Value} {l : List Int} (h : w.ownsRow base e 1 v l.length (flat1 l)) : Rd1 w v l := by
  obtain ⟨hl, h⟩ := h
  rcases h with ⟨rfl, h0⟩ | ⟨g, cap, cur, rfl, _, hg, hn, _, hs, ht⟩
  · have : l = [] := List.eq_nil_of_length_eq_zero h0
    subst this
    exact ⟨none, 0, rfl, Nat.le_refl _, fun h => absurd rfl h⟩
  · refine ⟨_, _, rfl, hn, fun hne => ?_⟩
    refine ⟨g, 0, rfl, Blk_lt hg, fun i x hp => ?_⟩
    have hi : i < l.length := (List.getElem?_eq_some_iff.1 hp).1
    have hf : (flat1 l)[i]? = some (.int .i64 x) := by simp [flat1, hp]
    rw [← ht] at hf
    rw [List.getElem?_take_of_lt (by omega)] at hf
    simpa [World.cell?, hg] using hf

set_option maxHeartbeats 1000000 in
set_option maxRecDepth 100000 in
theorem fspans_any (m : Nat) (w : World) (hm : m < 2 ^ 32) :
    Calls Tryz.prog 122 #[.int .u64 m] w fun e w' => ∃ u, e = .returned u ∧ ListAt w w' (canon m) u := by
  obtain ⟨i0, hi0, hz0, hz1, hz2⟩ := info_parts int_info
  have HM := Lib.hid hm
  clear hm
  go_enter Tryz.func122, Tryz.ntmps122
  go_wp2
  go_loopw [3, 7] (fun v i wr => ∃ n : Nat, n ≤ 32 ∧ i = .int .i64 n ∧ Gr w wr ∧ wr.ownsRow w.heap.size 3 1 v (bitsL m n).length (flat1 (bitsL m n))) (fun _ i _ => 32 - (intOf i).toNat)
  case atStart => exact ⟨0, by omega, rfl, Gr.refl _, World.ownsRow_nil _ _ _ _⟩
  case round =>
    obtain ⟨n, hn, rfl, hg, hown⟩ := hrel
    have hlen := bitsL_len m n
    by_cases hlt : n < 32
    · cases hbit : m.testBit n
      · have HL := Lib.hid (bitsL_no hbit)
        have HO := Lib.hid hown
        clear hown
        go_wp2_with fail
        refine (fhas_any m n _ HM.out hlt).mono ?_
        rw [hbit]
        rintro e w1 ⟨rfl, rfl⟩
        go_wp2_with fail
        go_roundw
        case rel => exact ⟨n + 1, by omega, by go_num, hg, by rw [HL.out]; exact HO.out⟩
        case measure => simp [intOf]; omega
      · obtain ⟨a, c, rfl, hc⟩ := own_form hown
        have HO := Lib.hid hown
        have HP : Hid (flat1 (bitsL m (n + 1)) = flat1 (bitsL m n) ++ [.int .i64 (n : Int)] ∧ (bitsL m (n + 1)).length = (bitsL m n).length + 1) := by
          rw [bitsL_yes hbit]
          exact ⟨by simp [flat1], by simp⟩
        clear hown hc
        generalize (bitsL m n).length = len at *
        go_wp2_with fail
        refine (fhas_any m n _ HM.out hlt).mono ?_
        rw [hbit]
        rintro e w1 ⟨rfl, rfl⟩
        go_wp2_with (at_builtin; refine wpList_append_own _ rfl (.tmp 13) (.tmp 15) 30 rfl w.heap.size 3 i0 _ 1 8 Tryz.underlying30 hi0 hz0 hz1 hz2 rfl (by omega) _ _ _ rfl (HO.out.alloc _) ⟨wr.heap.size, 0, none⟩ 1 1 [.int .i64 (n : Int)] rfl rfl (new1 _ _ _) (by simp [Value.oneCell']) (by simp only [maxLen]; omega) (by omega) (by have := hg.le; simp; omega) ?_; intro v1 w1 hown hg1 _)
        go_roundw
        case rel => exact ⟨n + 1, by omega, by go_num, (hg.alloc _).grown hg1 (fun k hk => (HO.out.lt k hk).1), by rw [HP.out.1, HP.out.2]; exact hown⟩
        case measure => simp [intOf]; omega
    · obtain rfl : n = 32 := by omega
      have HO := Lib.hid (Rd1.own hown)
      clear hown
      go_wp2_with fail
      refine (of_any _ _ _ HO.out (by omega)).mono ?_
      rintro e w1 (⟨h0, _⟩ | ⟨h0, u, rfl, hu, _⟩)
      · exact absurd (bitsL_num m) (by rw [h0]; simp)
      · rw [maskI_bitsL HM.out] at hu
        clear h0
        go_wp2_with fail
        go_ret
        exact ⟨u, rfl, hu.more hg⟩
end Go.Proofs.YtghjfakellaecaaGreat
/- The plain mathematics of blocks and merge. -/
namespace Rm
open Go Go.RowKit
theorem xor16 : ∀ a < 16, ∀ b < 16, bits .xor .i64 ((a : Nat) : Int) ((b : Nat) : Int) = ((a ^^^ b : Nat) : Int) := by decide +kernel
theorem andNot16' : ∀ a < 16, ∀ b < 16, bits .andNot .i64 ((a : Nat) : Int) ((b : Nat) : Int) = ((a &&& (15 - b) : Nat) : Int) := by decide +kernel
theorem andNot16_lt (a b : Nat) (h : a < 16) : a &&& (15 - b) < 16 := Nat.lt_of_le_of_lt Nat.and_le_left h
/-- the block of one combination of tags -/
def blk1 (T : Nat → Nat) (k : Nat) : Bx := ((k, 15 - k), T k)
theorem not15 : ∀ k < 16, bits .andNot .i64 15 ((k : Nat) : Int) = ((15 - k : Nat) : Int) := by decide +kernel
def blkT (T : Nat → Nat) : Nat → List Bx
  | 0 => []
  | k + 1 => if T k = 0 then blkT T k else blkT T k ++ [blk1 T k]
theorem blkT_no {T : Nat → Nat} {k : Nat} (h : T k = 0) : blkT T (k + 1) = blkT T k := by simp [blkT, h]
theorem blkT_yes {T : Nat → Nat} {k : Nat} (h : ¬ T k = 0) : blkT T (k + 1) = blkT T k ++ [blk1 T k] := by simp [blkT, h]
theorem blkT_len (T : Nat → Nat) : ∀ k, (blkT T k).length ≤ k
  | 0 => Nat.le_refl _
  | k + 1 => by
    have := blkT_len T k
    unfold blkT
    split
    · omega
    · simp; omega
theorem blkT_mem (T : Nat → Nat) (b : Bx) : ∀ k, b ∈ blkT T k → ∃ i, i < k ∧ b = blk1 T i
  | 0, h => by cases h
  | k + 1, h => by
    unfold blkT at h
    split at h
    · obtain ⟨i, a, b⟩ := blkT_mem T b k h; exact ⟨i, by omega, b⟩
    · rcases List.mem_append.1 h with h | h
      · obtain ⟨i, a, b⟩ := blkT_mem T b k h; exact ⟨i, by omega, b⟩
      · exact ⟨k, by omega, by simpa using h⟩
theorem vld15 : ∀ k < 16, Nat.land k (15 - k) = 0 := by decide
theorem blkT_ok {T : Nat → Nat} (hT : ∀ t, t < 16 → T t < 2 ^ 32) {k : Nat} (hk : k ≤ 16) : OkF (blkT T k) := by
  intro b hb
  obtain ⟨i, hi, rfl⟩ := blkT_mem T b k hb
  exact ⟨⟨by simp [blk1]; omega, by simp [blk1]; omega, vld15 i (by omega)⟩, hT i (by omega)⟩
def inTab : Bool := (List.range 16).all fun k => (List.range 16).all fun t => hasR ((k : Nat) : Int) ((15 - k : Nat) : Int) ((t : Nat) : Int) == decide (k = t)
theorem inTab_true : inTab = true := by decide +kernel
theorem in_blk1 (T : Nat → Nat) {k t : Nat} (hk : k < 16) (ht : t < 16) : inC (blk1 T k) t = decide (k = t) := by
  have H := inTab_true
  unfold inTab at H
  rw [List.all_eq_true] at H
  have := H k (List.mem_range.2 hk)
  rw [List.all_eq_true] at this
  have h2 := this t (List.mem_range.2 ht)
  rw [beq_iff_eq] at h2
  exact h2
theorem tab_blkT (T : Nat → Nat) {t : Nat} (ht : t < 16) : ∀ k, k ≤ 16 → tabF (blkT T k) t = if t < k then T t else 0
  | 0, _ => by simp [blkT, tabF]
  | k + 1, hk => by
    have ih := tab_blkT T ht k (by omega)
    unfold blkT
    split
    · rename_i h
      rw [ih]
      by_cases e : t = k
      · subst e; rw [if_neg (by omega), if_pos (by omega), h]
      · have : (t < k) ↔ (t < k + 1) := by omega
        simp only [this]
    · rw [tabF_snoc, ih, addB, in_blk1 T (by omega) ht]
      by_cases e : k = t
      · subst e
        rw [if_pos (by simp), if_neg (by omega), if_pos (by omega)]
        simp [blk1]
      · have : (t < k) ↔ (t < k + 1) := by omega
        rw [if_neg (by simpa using e)]
        simp only [this]

/-- what merge looks for, and what it makes of two -/
def twin (g : Nat) (b : Bx) : Bx := ((b.1.1 ^^^ g, b.1.2 ^^^ g), b.2)
def both (g : Nat) (b : Bx) : Bx := ((b.1.1 &&& (15 - g), b.1.2 &&& (15 - g)), b.2)
def twinTab (i : Nat) : Bool := (List.range 16).all fun y => (List.range 16).all fun n => (List.range 16).all fun t =>
  !(Nat.land y n == 0 && Nat.land (y ^^^ 2 ^ i) (n ^^^ 2 ^ i) == 0) ||
  ((hasR ((y &&& (15 - 2 ^ i) : Nat) : Int) ((n &&& (15 - 2 ^ i) : Nat) : Int) ((t : Nat) : Int) == (hasR ((y ^^^ 2 ^ i : Nat) : Int) ((n ^^^ 2 ^ i : Nat) : Int) ((t : Nat) : Int) || hasR ((y : Nat) : Int) ((n : Nat) : Int) ((t : Nat) : Int))) && (Nat.land (y &&& (15 - 2 ^ i)) (n &&& (15 - 2 ^ i)) == 0))
theorem twinTab0 : twinTab 0 = true := by decide +kernel
theorem twinTab1 : twinTab 1 = true := by decide +kernel
theorem twinTab2 : twinTab 2 = true := by decide +kernel
theorem twinTab3 : twinTab 3 = true := by decide +kernel
theorem twinTab_all (i : Nat) (h : i < 4) : twinTab i = true := by
  match i, h with
  | 0, _ => exact twinTab0
  | 1, _ => exact twinTab1
  | 2, _ => exact twinTab2
  | 3, _ => exact twinTab3
theorem twin_both {i : Nat} (hi : i < 4) {b : Bx} (h : OkB b) (h' : OkB (twin (2 ^ i) b)) : OkB (both (2 ^ i) b) ∧ ∀ t, t < 16 → inC (both (2 ^ i) b) t = (inC (twin (2 ^ i) b) t || inC b t) := by
  obtain ⟨⟨y, n⟩, m⟩ := b
  obtain ⟨⟨h1, h2, h3⟩, h4⟩ := h
  obtain ⟨⟨_, _, h5⟩, _⟩ := h'
  simp only [twin] at h1 h2 h3 h4 h5
  have key : ∀ t, t < 16 → _ := fun t ht => by
    have H := twinTab_all i hi
    unfold twinTab at H
    rw [List.all_eq_true] at H
    have H1 := H y (List.mem_range.2 h1)
    rw [List.all_eq_true] at H1
    have H2 := H1 n (List.mem_range.2 h2)
    rw [List.all_eq_true] at H2
    have H3 := H2 t (List.mem_range.2 ht)
    rw [h3, h5] at H3
    simp only [beq_self_eq_true, Bool.and_self, Bool.not_true, Bool.false_or, Bool.and_eq_true, beq_iff_eq] at H3
    exact H3
  refine ⟨⟨⟨andNot16_lt _ _ h1, andNot16_lt _ _ h2, (key 0 (by omega)).2⟩, h4⟩, fun t ht => (key t ht).1⟩
/-- a block put to those that were merged -/
theorem tab_set {M : List Bx} {b : Bx} {i j : Nat} (hi : i < 4) (hM : OkF M) (hb : OkB b) (hj : M[j]? = some (twin (2 ^ i) b)) : OkF (M.set j (both (2 ^ i) b)) ∧ ∀ t, t < 16 → tabF (M.set j (both (2 ^ i) b)) t = addB t (tabF M t) b := by
  have hjl : j < M.length := (List.getElem?_eq_some_iff.1 hj).1
  obtain ⟨k1, k2⟩ := twin_both hi hb (hM _ (List.mem_of_getElem? hj))
  have hmem : ∀ c, c ∈ M.set j (both (2 ^ i) b) ↔ c = both (2 ^ i) b ∨ ∃ l, l ≠ j ∧ M[l]? = some c := by
    intro c
    rw [List.mem_iff_getElem?]
    constructor
    · rintro ⟨l, hl⟩
      by_cases e : l = j
      · subst e
        rw [List.getElem?_set_self hjl] at hl
        exact .inl (by simpa using hl.symm)
      · rw [List.getElem?_set_ne (fun h => e h.symm)] at hl
        exact .inr ⟨l, e, hl⟩
    · rintro (rfl | ⟨l, e, hl⟩)
      · exact ⟨j, List.getElem?_set_self hjl⟩
      · exact ⟨l, by rw [List.getElem?_set_ne (fun h => e h.symm)]; exact hl⟩
  refine ⟨fun c hc => ?_, fun t ht => ?_⟩
  · rcases (hmem c).1 hc with rfl | ⟨l, _, hl⟩
    · exact k1
    · exact hM c (List.mem_of_getElem? hl)
  · apply Nat.eq_of_testBit_eq
    intro n
    rw [Bool.eq_iff_iff, tabF_bit]
    have e1 : (addB t (tabF M t) b).testBit n = true ↔ (tabF M t).testBit n = true ∨ (inC b t = true ∧ b.2.testBit n = true) := by
      unfold addB
      split
      · rename_i h; simp [h]
      · rename_i h; simp [h]
    rw [e1, tabF_bit]
    constructor
    · rintro ⟨c, hc, h1, h2⟩
      rcases (hmem c).1 hc with rfl | ⟨l, _, hl⟩
      · rw [k2 t ht, Bool.or_eq_true] at h1
        rcases h1 with h1 | h1
        · exact .inl ⟨_, List.mem_of_getElem? hj, h1, h2⟩
        · exact .inr ⟨h1, h2⟩
      · exact .inl ⟨c, List.mem_of_getElem? hl, h1, h2⟩
    · rintro (⟨c, hc, h1, h2⟩ | ⟨h1, h2⟩)
      · obtain ⟨l, hl⟩ := List.mem_iff_getElem?.1 hc
        by_cases e : l = j
        · subst e
          rw [hj] at hl
          obtain rfl := Option.some.inj hl
          exact ⟨both (2 ^ i) b, (hmem _).2 (.inl rfl), by rw [k2 t ht, h1]; rfl, h2⟩
        · exact ⟨c, (hmem c).2 (.inr ⟨l, e, hl⟩), h1, h2⟩
      · exact ⟨both (2 ^ i) b, (hmem _).2 (.inl rfl), by rw [k2 t ht, h1]; simp, h2⟩

/-- the cells of a list of blocks -/
def flatK (l : List Bx) : List Value := l.flatMap fun b => [.int .i64 (b.1.1 : Nat), .int .i64 (b.1.2 : Nat), .int .u64 (b.2 : Nat)]
theorem flatK_cons (p : Bx) (l : List Bx) : flatK (p :: l) = .int .i64 (p.1.1 : Nat) :: .int .i64 (p.1.2 : Nat) :: .int .u64 (p.2 : Nat) :: flatK l := rfl
theorem flatK_app (l r : List Bx) : flatK (l ++ r) = flatK l ++ flatK r := by simp [flatK]
theorem flatK_at (l : List Bx) (i : Nat) (p : Bx) (h : l[i]? = some p) : (flatK l)[i * 3]? = some (.int .i64 (p.1.1 : Nat)) ∧ (flatK l)[i * 3 + 1]? = some (.int .i64 (p.1.2 : Nat)) ∧ (flatK l)[i * 3 + 2]? = some (.int .u64 (p.2 : Nat)) := by
  induction l generalizing i with
  | nil => simp at h
  | cons q l ih =>
    rw [flatK_cons]
    cases i with
    | zero => simp at h; subst h; simp
    | succ i =>
      have e : (i + 1) * 3 = i * 3 + 1 + 1 + 1 := by omega
      rw [e]
      simpa using ih i (by simpa using h)
theorem flatK_set (l : List Bx) (i : Nat) (p q : Bx) (h : l[i]? = some p) (e : p.2 = q.2) : ((flatK l).set (i * 3) (.int .i64 (q.1.1 : Nat))).set (i * 3 + 1) (.int .i64 (q.1.2 : Nat)) = flatK (l.set i q) := by
  induction l generalizing i with
  | nil => simp at h
  | cons r l ih =>
    cases i with
    | zero => simp at h; subst h; simp [flatK_cons, e]
    | succ i =>
      have e : (i + 1) * 3 = i * 3 + 1 + 1 + 1 := by omega
      have e2 : (r :: l).set (i + 1) q = r :: l.set i q := rfl
      rw [e, e2, flatK_cons, flatK_cons]
      simpa using ih i (by simpa using h)
end Rm
/- The contracts of package filter's blocks and of slices.Index over blocks. -/
namespace Go.Proofs.YtghjfakellaecaaGreat
open Go.RowKit Rm
set_option linter.unusedVariables false

theorem set_info : (Tryz.prog.info? 126).map (·.size) = some 1 := by kernel_rfl
theorem index_table (T : Nat → Nat) (k : Nat) (hk : k < 16) (w : World) : (Instr.index 128 (.agg (tArr T)) (.int .i64 (k : Int))).run Tryz.prog w = .ok (.int .u64 (T k : Nat)) w := by
  have hz : (sizeOf 126).run Tryz.prog w = .ok 1 w := by
    cases hq : Tryz.prog.info? 126 with
    | none => have := set_info; rw [hq] at this; simp at this
    | some i =>
      have hs : i.size = 1 := by have := set_info; rw [hq] at this; simpa using this
      simp [sizeOf, typeInfo, hq, hs]
  have hc := tArr_at T k hk
  simp [Instr.index, Sem.run_bind, run_underlying Tryz.underlying128, asIntOf, part, hz, hc]
  intro h
  omega

/-- a slice of blocks reads as a list -/
def Rd3 (w : World) (v : Value) (l : List Bx) : Prop :=
  ∃ a c, v = .slice a l.length c ∧ l.length ≤ c ∧ (l ≠ [] → ∃ b off, a = some ⟨b, off, none⟩ ∧ b < w.heap.size ∧
    ∀ i p, l[i]? = some p → w.cell? ⟨b, off + i * 3, none⟩ = some (.int .i64 (p.1.1 : Nat)) ∧ w.cell? ⟨b, off + i * 3 + 1, none⟩ = some (.int .i64 (p.1.2 : Nat)) ∧ w.cell? ⟨b, off + i * 3 + 2, none⟩ = some (.int .u64 (p.2 : Nat)))
theorem Rd3.gr {w w' : World} {v : Value} {l : List Bx} (h : Rd3 w v l) (g : Gr w w') : Rd3 w' v l := by
  obtain ⟨a, c, e, hc, h⟩ := h
  refine ⟨a, c, e, hc, fun hl => ?_⟩
  obtain ⟨b, off, ea, hb, hx⟩ := h hl
  refine ⟨b, off, ea, Nat.lt_of_lt_of_le hb g.le, fun i p hp => ?_⟩
  obtain ⟨h1, h2, h3⟩ := hx i p hp
  exact ⟨(g.cells.1 b _ hb).trans h1, (g.cells.1 b _ hb).trans h2, (g.cells.1 b _ hb).trans h3⟩
theorem Rd3.own {w : World} {base : Nat} {e : TypeId} {v : Value} {l : List Bx} (h : w.ownsRow base e 3 v l.length (flatK l)) : Rd3 w v l := by
  obtain ⟨hl, h⟩ := h
  rcases h with ⟨rfl, h0⟩ | ⟨g, cap, cur, rfl, _, hg, hn, _, hs, ht⟩
  · have : l = [] := List.eq_nil_of_length_eq_zero h0
    subst this
    exact ⟨none, 0, rfl, Nat.le_refl _, fun h => absurd rfl h⟩
  · refine ⟨_, _, rfl, hn, fun hne => ?_⟩
    refine ⟨g, 0, rfl, Blk_lt hg, fun i p hp => ?_⟩
    have hi : i < l.length := (List.getElem?_eq_some_iff.1 hp).1
    have hf := flatK_at l i p hp
    rw [← ht] at hf
    have key : ∀ j, j < l.length * 3 → w.cell? ⟨g, 0 + j, none⟩ = (cur.toList.take (l.length * 3))[j]? := by
      intro j hj
      rw [List.getElem?_take_of_lt hj]
      simp [World.cell?, hg]
    have k2 := key (i * 3 + 1) (by omega)
    have k3 := key (i * 3 + 2) (by omega)
    rw [← Nat.add_assoc] at k2 k3
    exact ⟨(key (i * 3) (by omega)).trans hf.1, k2.trans hf.2.1, k3.trans hf.2.2⟩
theorem new3 (w : World) (a b c : Value) (t : TypeId) : ∀ j u, ([a, b, c] : List Value)[j]? = some u → (w.alloc (.cells #[a, b, c] t)).cell? ((⟨w.heap.size, 0, none⟩ : Addr).add j) = some u := by
  intro j u hu
  match j with
  | 0 => simp at hu; subst hu; simp [go_sem, Addr.add]
  | 1 => simp at hu; subst hu; simp [go_sem, Addr.add]
  | 2 => simp at hu; subst hu; simp [go_sem, Addr.add]
  | j + 3 => simp at hu
theorem block_info : (Tryz.prog.info? 176).map (fun i => (i.zero, i.size, i.bytes)) = some (some (.agg #[.int .i64 0, .int .i64 0, .int .u64 0]), 3, 24) := by kernel_rfl
theorem one3 (a b : Int) (c : Int) : ∀ u ∈ ([.int .i64 a, .int .i64 b, .int .u64 c] : List Value), u.oneCell' = true := by
  intro u hu
  simp at hu
  rcases hu with rfl | rfl | rfl <;> rfl
/-- new blocks -/
def BlkAt (w wr : World) (l : List Bx) (v : Value) : Prop := Gr w wr ∧ wr.ownsRow w.heap.size 176 3 v l.length (flatK l)
theorem BlkAt.rd {w w1 : World} {l : List Bx} {v : Value} (h : BlkAt w w1 l v) : Rd3 w1 v l := Rd3.own h.2
theorem BlkAt.more {w w1 w2 : World} {l : List Bx} {v : Value} (g : Gr w w1) (h : BlkAt w1 w2 l v) : BlkAt w w2 l v := by
  refine ⟨g.trans h.1, h.2.1, ?_⟩
  rcases h.2.2 with ⟨a, b⟩ | ⟨g', cap, cur, a, b, c⟩
  · exact .inl ⟨a, b⟩
  · exact .inr ⟨g', cap, cur, a, Nat.le_trans g.le b, c⟩

set_option maxHeartbeats 1000000 in
set_option maxRecDepth 100000 in
theorem blocks_any (T : Nat → Nat) (w : World) :
    Calls Tryz.prog 120 #[.agg (tArr T)] w fun e w' => ∃ u, e = .returned u ∧ BlkAt w w' (blkT T 16) u := by
  obtain ⟨i0, hi0, hz0, hz1, hz2⟩ := info_parts block_info
  have HS : Hid ((Tryz.prog.info? 128).map (·.size) = some (tArr T).size) := by rw [tArr_size]; exact table_info
  go_enter Tryz.func120, Tryz.ntmps120
  go_wp2_with (refine wpList_load_row rfl 128 _ rfl w.heap.size rfl 128 (tArr T) (0, 0) _ (heap_alloc_new _ _) Tryz.underlying128 rfl HS.out ?_)
  go_loopw [3, 7] (fun v i wr => ∃ n : Nat, n ≤ 16 ∧ i = .int .i64 n ∧ BlkAt w wr (blkT T n) v) (fun _ i _ => 16 - (intOf i).toNat)
  case atStart => exact ⟨0, by omega, rfl, (Gr.refl _).alloc _, World.ownsRow_nil _ _ _ _⟩
  case round =>
    obtain ⟨n, hn, rfl, hg, hown⟩ := hrel
    have hlen := blkT_len T n
    by_cases hlt : n < 16
    · have hix := fun wx => index_table T n hlt wx
      have hn16 : (n : Int) < 16 := by omega
      by_cases h0 : T n = 0
      · have HL := Lib.hid (blkT_no h0)
        have HO := Lib.hid hown
        rw [h0] at hix
        clear hown h0
        go_wp2_with fail
        go_roundw
        case rel => exact ⟨n + 1, by omega, by go_num, hg, by rw [HL.out]; exact HO.out⟩
        case measure => simp [intOf]; omega
      · obtain ⟨a, c, rfl, hc⟩ := own_form hown
        have HO := Lib.hid hown
        have HP : Hid (flatK (blkT T (n + 1)) = flatK (blkT T n) ++ [.int .i64 (n : Int), .int .i64 ((15 - n : Nat) : Int), .int .u64 (T n : Nat)] ∧ (blkT T (n + 1)).length = (blkT T n).length + 1) := by
          rw [blkT_yes h0]
          exact ⟨by rw [flatK_app]; rfl, by simp⟩
        have hne : (((T n : Nat) : Int) != 0) = true := by simp; omega
        have h15 := not15 n hlt
        clear hown hc h0
        generalize (blkT T n).length = len at *
        generalize (15 - n) = nn at *
        go_wp2_with (at_builtin; refine wpList_append_own _ rfl (.tmp 13) (.tmp 20) 172 rfl w.heap.size 176 i0 _ 3 24 Tryz.underlying172 hi0 hz0 hz1 hz2 rfl (by omega) _ _ _ rfl (HO.out.alloc _) ⟨wr.heap.size, 0, none⟩ 1 1 [.int .i64 (n : Int), .int .i64 (nn : Int), .int .u64 (T n : Nat)] rfl rfl (new3 _ _ _ _ _) (one3 _ _ _) (by simp only [maxLen]; omega) (by omega) (by have := hg.le; simp; omega) ?_; intro v1 w1 hown hg1 _)
        go_roundw
        case rel => exact ⟨n + 1, by omega, by go_num, (hg.alloc _).grown hg1 (fun k hk => (HO.out.lt k hk).1), by rw [HP.out.1, HP.out.2]; exact hown⟩
        case measure => simp [intOf]; omega
    · obtain rfl : n = 16 := by omega
      have HO := Lib.hid hown
      clear hown
      go_wp2_with fail
      go_ret
      exact ⟨_, rfl, hg, HO.out⟩
end Go.Proofs.YtghjfakellaecaaGreat
/- The contract of slices.Index over blocks. -/
namespace Go.Proofs.YtghjfakellaecaaGreat
open Go.RowKit Rm
set_option linter.unusedVariables false

/-- what Index answers -/
def IdxAt (l : List Bx) (b : Bx) (w : World) (e : Ending) (w' : World) : Prop :=
  ((∃ i : Nat, l[i]? = some b ∧ e = .returned (.int .i64 (i : Int))) ∨ (b ∉ l ∧ e = .returned (.int .i64 (-1)))) ∧ Gr w w'
theorem not_mem_of {l : List Bx} {b : Bx} (h : ∀ j, j < l.length → l[j]? ≠ some b) : b ∉ l := by
  intro hb
  obtain ⟨j, hj⟩ := List.mem_iff_getElem?.1 hb
  exact h j (List.getElem?_eq_some_iff.1 hj).1 hj

set_option maxHeartbeats 1000000 in
set_option maxRecDepth 100000 in
theorem index_any (v : Value) (l : List Bx) (y n m : Nat) (w : World) (hr : Rd3 w v l) (hl : l.length ≤ 16) :
    Calls Tryz.prog 143 #[v, .agg #[.int .i64 (y : Int), .int .i64 (n : Int), .int .u64 (m : Int)]] w (IdxAt l ((y, n), m) w) := by
  obtain ⟨a, cp, rfl, hcp, hx⟩ := hr
  have HX := Lib.hid hx
  have hlen' : (l.length : Int) ≤ 16 := by omega
  clear hx
  go_enter Tryz.func143, Tryz.ntmps143
  go_wp2
  go_loopw [8] (fun i wr => ∃ k : Nat, k ≤ l.length ∧ i = .int .i64 k ∧ Hid (∀ j, j < k → l[j]? ≠ some ((y, n), m)) ∧ Gr (w.alloc (.cells #[.int .i64 (y : Int), .int .i64 (n : Int), .int .u64 (m : Int)] 176)) wr) (fun i _ => l.length - (intOf i).toNat)
  case atStart => exact ⟨0, by omega, rfl, fun j hj => by omega, Gr.refl _⟩
  case round =>
    obtain ⟨k, hk, rfl, hno, hg⟩ := hrel
    have d1 : wr.cell? ⟨w.heap.size, 0, none⟩ = some (.int .i64 (y : Int)) := by rw [hg.cells.1 _ _ (by simp)]; simp [go_sem]
    have d2 : wr.cell? ⟨w.heap.size, 1, none⟩ = some (.int .i64 (n : Int)) := by rw [hg.cells.1 _ _ (by simp)]; simp [go_sem]
    have d3 : wr.cell? ⟨w.heap.size, 2, none⟩ = some (.int .u64 (m : Int)) := by rw [hg.cells.1 _ _ (by simp)]; simp [go_sem]
    have G1 := ((Gr.refl w).alloc _).trans hg
    have HG := Lib.hid hg
    clear hg
    by_cases hlt : k < l.length
    · obtain ⟨⟨⟨y', n'⟩, m'⟩, hp⟩ : ∃ p, l[k]? = some p := ⟨_, List.getElem?_eq_getElem hlt⟩
      obtain ⟨b, off, rfl, hb, hcell⟩ := HX.out (by intro e; rw [e] at hlt; simp at hlt)
      obtain ⟨c1, c2, c3⟩ := hcell k _ hp
      rw [← G1.cells.1 b _ hb] at c1 c2 c3
      simp only at c1 c2 c3
      have hbr : b < wr.heap.size := Nat.lt_of_lt_of_le hb G1.le
      have hk16 : (k : Int) < 16 := by omega
      have HP := Lib.hid hp
      clear hcell hp
      by_cases heq : ((y', n'), m') = ((y, n), m)
      · simp only [Prod.mk.injEq] at heq
        obtain ⟨⟨rfl, rfl⟩, rfl⟩ := heq
        go_wp2
        go_quiet (fail)
        go_wp2
        go_ret
        exact ⟨.inl ⟨k, HP.out, rfl⟩, G1.drewN _⟩
      · have HN : Hid (∀ j, j < k + 1 → l[j]? ≠ some ((y, n), m)) := by
          intro j hj
          rcases Nat.lt_or_ge j k with c | c
          · exact hno.out j c
          · obtain rfl : j = k := by omega
            rw [HP.out]
            intro e
            exact heq (Option.some.inj e)
        cases h1 : ((y : Int) == (y' : Int))
        · go_wp2
          go_quiet (fail)
          go_wp2
          go_roundw
          case rel => exact ⟨k + 1, by omega, by go_num, HN, HG.out.drewN _⟩
          case measure => simp [intOf]; omega
        · cases h2 : ((n : Int) == (n' : Int))
          · go_wp2
            go_quiet (fail)
            go_wp2
            go_roundw
            case rel => exact ⟨k + 1, by omega, by go_num, HN, HG.out.drewN _⟩
            case measure => simp [intOf]; omega
          · have h3 : ((m : Int) == (m' : Int)) = false := by
              simp at h1 h2 ⊢
              intro e
              exact heq (by simp; omega)
            go_wp2
            go_quiet (fail)
            go_wp2
            go_roundw
            case rel => exact ⟨k + 1, by omega, by go_num, HN, HG.out.drewN _⟩
            case measure => simp [intOf]; omega
    · obtain rfl : k = l.length := by omega
      go_wp2
      go_ret
      exact ⟨.inr ⟨not_mem_of hno.out, rfl⟩, G1⟩
end Go.Proofs.YtghjfakellaecaaGreat
/- The contract of package filter's merge. -/
namespace Rm
open Go Go.RowKit
theorem pow16 : ∀ i < 4, 2 ^ i < 16 := by decide
theorem OkF.snoc {M : List Bx} {b : Bx} (h : OkF M) (hb : OkB b) : OkF (M ++ [b]) := by
  intro c hc
  rcases List.mem_append.1 hc with hc | hc
  · exact h c hc
  · obtain rfl : c = b := by simpa using hc
    exact hb
end Rm
namespace Go.Proofs.YtghjfakellaecaaGreat
open Go.RowKit Rm
set_option linter.unusedVariables false

/-- where merge's loop stands: k blocks are in M -/
def MergAt (l : List Bx) (k : Nat) (M : List Bx) : Prop := OkF M ∧ M.length ≤ k ∧ ∀ t, t < 16 → tabF M t = tabF (l.take k) t
theorem own_gr {w w' : World} {base : Nat} {e : TypeId} {size : Nat} {v : Value} {n : Nat} {xs : List Value} (h : w.ownsRow base e size v n xs) (g : Gr w w') : w'.ownsRow base e size v n xs := by
  refine h.kept (row := none) ⟨g.os, g.tape, g.output, g.size, fun k hk _ => Below.block g k hk⟩ ?_
  cases v.ownBlock with
  | none => exact .inl rfl
  | some k => exact .inr (by simp)
theorem mergAt_start (l : List Bx) : MergAt l 0 [] := ⟨(fun b hb => by cases hb), by simp, fun t _ => by simp⟩
theorem MergAt.set {l M : List Bx} {k g j : Nat} {b : Bx} (h : MergAt l k M) (hk : l[k]? = some b) (hj : M[j]? = some (twin g b)) (hb : OkB b) (ht : OkF (M.set j (both g b)) ∧ ∀ t, t < 16 → tabF (M.set j (both g b)) t = addB t (tabF M t) b) : MergAt l (k + 1) (M.set j (both g b)) :=
  ⟨ht.1, by rw [List.length_set]; have := h.2.1; omega, fun t h16 => by rw [ht.2 t h16, h.2.2 t h16, tabF_take hk]⟩
theorem MergAt.snoc {l M : List Bx} {k : Nat} {b : Bx} (h : MergAt l k M) (hk : l[k]? = some b) (hb : OkB b) : MergAt l (k + 1) (M ++ [b]) :=
  ⟨h.1.snoc hb, by have := h.2.1; simp; omega, fun t h16 => by rw [tabF_snoc, h.2.2 t h16, tabF_take hk]⟩


set_option maxHeartbeats 2000000 in
set_option maxRecDepth 100000 in
theorem merge_any (v : Value) (l : List Bx) (i : Nat) (w : World) (hr : Rd3 w v l) (hl : l.length ≤ 16) (hok : OkF l) (hi : i < 4) :
    Calls Tryz.prog 121 #[v, .int .i64 ((2 ^ i : Nat) : Int)] w fun e w' => ∃ u M, e = .returned u ∧ BlkAt w w' M u ∧ MergAt l l.length M := by
  obtain ⟨i0, hi0, hz0, hz1, hz2⟩ := info_parts block_info
  obtain ⟨a, cp, rfl, hcp, hx⟩ := hr
  have HX := Lib.hid hx
  have HK := Lib.hid hok
  have hlen' : (l.length : Int) ≤ 16 := by omega
  have hg16 := pow16 i hi
  have HTS := Lib.hid (fun (M : List Bx) (b : Bx) (j : Nat) => tab_set (M := M) (b := b) (j := j) hi)
  have HTW := Lib.hid (fun (b : Bx) => show twin (2 ^ i) b = ((b.1.1 ^^^ 2 ^ i, b.1.2 ^^^ 2 ^ i), b.2) from rfl)
  have HTB := Lib.hid (fun (b : Bx) => show both (2 ^ i) b = ((b.1.1 &&& (15 - 2 ^ i), b.1.2 &&& (15 - 2 ^ i)), b.2) from rfl)
  clear hx hok
  generalize 2 ^ i = g at *
  clear hi
  have hgi : (g : Int) < 16 := by omega
  go_enter Tryz.func121, Tryz.ntmps121
  go_wp2
  go_loopw [5, 12] (fun u kk wr => ∃ (k : Nat) (M : List Bx), k ≤ l.length ∧ kk = .int .i64 k ∧ BlkAt w wr M u ∧ MergAt l k M) (fun _ kk _ => l.length - (intOf kk).toNat)
  case atStart => exact ⟨0, [], by omega, rfl, ⟨Gr.refl _, World.ownsRow_nil _ _ _ _⟩, mergAt_start l⟩
  case round =>
    obtain ⟨k, M, hk, rfl, ⟨hg, hown⟩, hMA⟩ := hrel
    generalize wr = wo at *
    have hMl := hMA.2.1
    have HMA := Lib.hid hMA
    have HO := Lib.hid hown
    clear hMA
    by_cases hlt : k < l.length
    · obtain ⟨⟨⟨y, n⟩, m⟩, hp⟩ : ∃ p, l[k]? = some p := ⟨_, List.getElem?_eq_getElem hlt⟩
      obtain ⟨b, off, rfl, hb, hcell⟩ := HX.out (by intro e; rw [e] at hlt; simp at hlt)
      obtain ⟨c1, c2, c3⟩ := hcell k _ hp
      rw [← hg.cells.1 b _ hb] at c1 c2 c3
      simp only at c1 c2 c3
      have hbr : b < wo.heap.size := Nat.lt_of_lt_of_le hb hg.le
      have hk16 : (k : Int) < 16 := by omega
      have hB : OkB ((y, n), m) := HK.out _ (List.mem_of_getElem? hp)
      have HB := Lib.hid hB
      have HP := Lib.hid hp
      have x1 := xor16 y hB.1.1 g hg16
      have x2 := xor16 n hB.1.2.1 g hg16
      have a1 := andNot16' y hB.1.1 g hg16
      have a2 := andNot16' n hB.1.2.1 g hg16
      obtain ⟨ua, uc, rfl, huc⟩ := own_form hown
      clear hcell hp hB hown
      go_wp2_with fail
      have R1 := Lib.hid ((Rd3.own HO.out).gr (((Gr.refl wo).alloc (.cells #[.int .i64 (y : Int), .int .i64 (n : Int), .int .u64 (m : Int)] 176)).alloc (.cells #[.int .i64 ((y ^^^ g : Nat) : Int), .int .i64 ((n ^^^ g : Nat) : Int), .int .u64 (m : Int)] 176)))
      refine (index_any _ M (y ^^^ g) (n ^^^ g) m _ R1.out (by omega)).mono ?_
      rintro e w1 ⟨hcase, g1⟩
      have T1 := Lib.hid ((Three.new wo y n (.int .u64 (m : Int)) 176).gr (((Gr.refl _).alloc (.cells #[.int .i64 ((y ^^^ g : Nat) : Int), .int .i64 ((n ^^^ g : Nat) : Int), .int .u64 (m : Int)] 176)).trans g1))
      have G1 := Lib.hid (((hg.alloc (.cells #[.int .i64 (y : Int), .int .i64 (n : Int), .int .u64 (m : Int)] 176)).alloc (.cells #[.int .i64 ((y ^^^ g : Nat) : Int), .int .i64 ((n ^^^ g : Nat) : Int), .int .u64 (m : Int)] 176)).trans g1)
      have O1 := Lib.hid (own_gr HO.out (((Gr.refl wo).alloc (.cells #[.int .i64 (y : Int), .int .i64 (n : Int), .int .u64 (m : Int)] 176)).alloc (.cells #[.int .i64 ((y ^^^ g : Nat) : Int), .int .i64 ((n ^^^ g : Nat) : Int), .int .u64 (m : Int)] 176)))
      have O2 := Lib.hid (own_gr O1.out g1)
      clear O1 R1 HO g1 c1 c2 c3 x1 x2
      have hws := hg.le
      generalize wo.heap.size = BB at *
      obtain ⟨t1, t2, t3, t4⟩ := T1.out
      have hMl16 : (M.length : Int) < 16 := by omega
      rcases hcase with ⟨j, hj, rfl⟩ | ⟨hnot, rfl⟩
      · have hjl : j < M.length := (List.getElem?_eq_some_iff.1 hj).1
        have hjl' : (j : Int) < (M.length : Int) := by omega
        obtain ⟨g0, cap0, e0, hb0, hl0, hc0⟩ := own_pos O2.out (by omega)
        obtain ⟨rfl, -, rfl⟩ : ua = some ⟨g0, 0, none⟩ ∧ M.length = M.length ∧ uc = cap0 := by simpa using e0
        have f0 := flatK_at M j _ hj
        have q1 : w1.cell? ⟨g0, j * 3, none⟩ = some (.int .i64 ((y ^^^ g : Nat) : Int)) := by rw [O2.out.cellAt _ (by omega)]; exact f0.1
        have q2 : w1.cell? ⟨g0, j * 3 + 1, none⟩ = some (.int .i64 ((n ^^^ g : Nat) : Int)) := by rw [O2.out.cellAt _ (by omega)]; exact f0.2.1
        have z1 := O2.out.frozenAt (j * 3)
        have z2 := O2.out.frozenAt (j * 3 + 1)
        have HJ : Hid (M[j]? = some (twin g ((y, n), m))) := by rw [HTW.out]; exact hj
        have HFS := Lib.hid (flatK_set M j _ ((y &&& (15 - g), n &&& (15 - g)), m) hj rfl)
        have HNEW := Lib.hid (HMA.out.set HP.out HJ.out HB.out (HTS.out M ((y, n), m) j HMA.out.1 HB.out HJ.out))
        have HLS : Hid ((M.set j (both g ((y, n), m))).length = M.length) := List.length_set
        have HBB := HTB.out ((y, n), m)
        simp only at HBB
        have HBB2 := Lib.hid HBB
        clear hj f0 e0 HBB
        go_wp2_with fail
        go_roundw
        case rel =>
          refine ⟨k + 1, M.set j (both g ((y, n), m)), by omega, by go_num, ⟨(G1.out.setCell hb0 _).setCell hb0 _, ?_⟩, HNEW.out⟩
          rw [HLS.out, HBB2.out, ← HFS.out]
          exact ((O2.out.stored _ _).1.stored _ _).1
        case measure => simp [intOf]; omega
      · clear hnot
        have HNEW := Lib.hid (HMA.out.snoc HP.out HB.out)
        have HFA : Hid (flatK (M ++ [((y, n), m)]) = flatK M ++ [.int .i64 (y : Int), .int .i64 (n : Int), .int .u64 (m : Int)] ∧ (M ++ [((y, n), m)]).length = M.length + 1) := ⟨by rw [flatK_app]; rfl, by simp⟩
        go_wp2_with (at_builtin; refine wpList_append_own _ rfl (.tmp 50) (.tmp 52) 172 rfl w.heap.size 176 i0 _ 3 24 Tryz.underlying172 hi0 hz0 hz1 hz2 rfl (by omega) _ _ _ rfl (O2.out.alloc _) ⟨w1.heap.size, 0, none⟩ 1 1 [.int .i64 (y : Int), .int .i64 (n : Int), .int .u64 (m : Int)] rfl rfl (new3 _ _ _ _ _) (one3 _ _ _) (by simp only [maxLen]; omega) (by omega) (by have := G1.out.le; simp; omega) ?_; intro v1 w2 hown hg1 _)
        go_roundw
        case rel => exact ⟨k + 1, M ++ [((y, n), m)], by omega, by go_num, ⟨(G1.out.alloc _).grown hg1 (fun k hk => (O2.out.lt k hk).1), by rw [HFA.out.1, HFA.out.2]; exact hown⟩, HNEW.out⟩
        case measure => simp [intOf]; omega
    · obtain rfl : k = l.length := by omega
      go_wp2_with fail
      go_ret
      exact ⟨_, M, rfl, ⟨hg, HO.out⟩, HMA.out⟩
end Go.Proofs.YtghjfakellaecaaGreat
/- The contract of package filter's boxes. -/
namespace Rm
open Go Go.RowKit
/-- the cells of boxes, each with the slice of its numbers -/
def flatO (l : List (Bx × Value)) : List Value := l.flatMap fun b => [.int .i64 (b.1.1.1 : Nat), .int .i64 (b.1.1.2 : Nat), b.2]
theorem flatO_cons (p : Bx × Value) (l : List (Bx × Value)) : flatO (p :: l) = .int .i64 (p.1.1.1 : Nat) :: .int .i64 (p.1.1.2 : Nat) :: p.2 :: flatO l := rfl
theorem flatO_app (l r : List (Bx × Value)) : flatO (l ++ r) = flatO l ++ flatO r := by simp [flatO]
theorem flatO_at (l : List (Bx × Value)) (i : Nat) (p : Bx × Value) (h : l[i]? = some p) : (flatO l)[i * 3]? = some (.int .i64 (p.1.1.1 : Nat)) ∧ (flatO l)[i * 3 + 1]? = some (.int .i64 (p.1.1.2 : Nat)) ∧ (flatO l)[i * 3 + 2]? = some p.2 := by
  induction l generalizing i with
  | nil => simp at h
  | cons q l ih =>
    rw [flatO_cons]
    cases i with
    | zero => simp at h; subst h; simp
    | succ i =>
      have e : (i + 1) * 3 = i * 3 + 1 + 1 + 1 := by omega
      rw [e]
      simpa using ih i (by simpa using h)
end Rm
namespace Go.Proofs.YtghjfakellaecaaGreat
open Go.RowKit Rm
set_option linter.unusedVariables false
attribute [local go_sem ↓] Go.wp_at_zero Go.wp_at_succ

theorem box_info : (Tryz.prog.info? 96).map (fun i => (i.zero, i.size, i.bytes)) = some (some (.agg #[.int .i64 0, .int .i64 0, .slice none 0 0]), 3, 40) := by kernel_rfl
/-- boxes in new memory -/
def OutAt (w wr : World) (O : List (Bx × Value)) (u : Value) : Prop :=
  Gr w wr ∧ wr.ownsRow w.heap.size 96 3 u O.length (flatO O) ∧
  ∀ p ∈ O, wr.ownsRow w.heap.size 91 2 p.2 (pairs (canon p.1.2)).length (flat (pairs (canon p.1.2))) ∧ (p.2.ownBlock = none ∨ p.2.ownBlock ≠ u.ownBlock)
theorem OutAt.snoc {w wo w1 w2 w3 : World} {O : List (Bx × Value)} {u sv : Value} {b : Bx} {g cap : Nat} {o : Obj} (h : OutAt w wo O u) (g1 : Gr wo w1) (hl : ListAt w1 w2 (canon b.2) sv)
    (hown : w3.ownsRow w.heap.size 96 3 (.slice (some ⟨g, 0, none⟩) (O.length + 1) cap) (O.length + 1) (flatO O ++ [.int .i64 (b.1.1 : Nat), .int .i64 (b.1.2 : Nat), sv]))
    (hgrow : (w2.alloc o).grownBy w3 u.ownBlock) (hat : u.ownBlock = some g ∨ g = w2.heap.size + 1) : OutAt w w3 (O ++ [(b, sv)]) (.slice (some ⟨g, 0, none⟩) (O.length + 1) cap) := by
  obtain ⟨hg, ho, hs⟩ := h
  have hlt : ∀ k, u.ownBlock = some k → k < wo.heap.size := fun k hk => (ho.lt k hk).2
  have g2 := (g1.trans hl.1).alloc o
  refine ⟨Gr.grown (hg.trans g2) hgrow (fun k hk => (ho.lt k hk).1), ?_, ?_⟩
  · have e0 : (O ++ [(b, sv)]).length = O.length + 1 := by simp
    rw [e0, flatO_app]
    exact hown
  · intro p hp
    have far : ∀ {z : Value} {bb : Nat} {e : TypeId} {sz nn : Nat} {xs : List Value}, (w2.alloc o).ownsRow bb e sz z nn xs → (z.ownBlock = none ∨ z.ownBlock ≠ u.ownBlock) → (∀ k, z.ownBlock = some k → k < w2.heap.size + 1) →
        w3.ownsRow bb e sz z nn xs ∧ (z.ownBlock = none ∨ z.ownBlock ≠ some g) := by
      intro z bb e sz nn xs hz hne hk
      refine ⟨hz.kept hgrow hne, ?_⟩
      rcases hne with h0 | hne
      · exact .inl h0
      · refine .inr fun e0 => ?_
        rcases hat with h1 | h1
        · exact hne (e0.trans h1.symm)
        · have := hk _ e0; omega
    rcases List.mem_append.1 hp with hp | hp
    · obtain ⟨k1, k2⟩ := hs p hp
      refine far (own_gr k1 g2) k2 (fun k hk => ?_)
      have := (k1.lt k hk).2
      have := g1.le
      have := hl.1.le
      omega
    · obtain rfl : p = (b, sv) := by simpa using hp
      have hb : ∀ k, sv.ownBlock = some k → w1.heap.size ≤ k ∧ k < w2.heap.size := fun k hk => hl.2.lt k hk
      have hbase : (w2.alloc o).ownsRow w.heap.size 91 2 sv (pairs (canon b.2)).length (flat (pairs (canon b.2))) := (ListAt.more (hg.trans g1) hl).2.alloc o
      refine far hbase ?_ (fun k hk => by have := (hb k hk).2; omega)
      cases hsv : sv.ownBlock with
      | none => exact .inl rfl
      | some k =>
        refine .inr fun e0 => ?_
        have h1 := (hb k hsv).1
        have h2 := hlt k e0.symm
        have := g1.le
        omega
theorem rd_own {wr : World} {base : Nat} {O : List (Bx × Value)} {u : Value} (h : wr.ownsRow base 96 3 u O.length (flatO O)) (hs : ∀ p ∈ O, wr.ownsRow base 91 2 p.2 (pairs (canon p.1.2)).length (flat (pairs (canon p.1.2)))) : RdF wr u ((O.map (·.1)).map boxI) := by
  obtain ⟨hl, h⟩ := h
  rcases h with ⟨rfl, h0⟩ | ⟨g, cap, cur, rfl, _, hg, hn, _, hz, ht⟩
  · have : O = [] := List.eq_nil_of_length_eq_zero h0
    subst this
    exact RdF.nil _
  · refine ⟨some ⟨g, 0, none⟩, cap, by simp, by simpa using hn, fun hne => ⟨g, 0, rfl, Blk_lt hg, fun i p hp => ?_⟩⟩
    simp only [List.map_map, List.getElem?_map, Option.map_eq_some_iff] at hp
    obtain ⟨q, hq, rfl⟩ := hp
    have hi : i < O.length := (List.getElem?_eq_some_iff.1 hq).1
    have hf := flatO_at O i q hq
    rw [← ht] at hf
    have key : ∀ j, j < O.length * 3 → wr.cell? ⟨g, 0 + j, none⟩ = (cur.toList.take (O.length * 3))[j]? := by
      intro j hj
      rw [List.getElem?_take_of_lt hj]
      simp [World.cell?, hg]
    have k2 := key (i * 3 + 1) (by omega)
    have k3 := key (i * 3 + 2) (by omega)
    rw [← Nat.add_assoc] at k2 k3
    exact ⟨q.2, (key (i * 3) (by omega)).trans hf.1, k2.trans hf.2.1, k3.trans hf.2.2, Rd2.own (hs q (List.mem_of_getElem? hq))⟩
theorem OutAt.rd {w wr : World} {O : List (Bx × Value)} {u : Value} (h : OutAt w wr O u) : RdF wr u ((O.map (·.1)).map boxI) := rd_own h.2.1 (fun p hp => (h.2.2 p hp).1)
theorem outAt_nil (w : World) : OutAt w w [] (.slice none 0 0) := ⟨Gr.refl _, World.ownsRow_nil _ _ _ _, fun p hp => by cases hp⟩

theorem fspans_at (B : Nat) (y n : Int) (m : Nat) (w : World) (hm : m < 2 ^ 32) (h : Three w B y n (.int .u64 (m : Int))) :
    Calls Tryz.prog 122 #[.int .u64 m] w fun e w' => ∃ a c, e = .returned (.slice a (pairs (canon m)).length c) ∧ ListAt w w' (canon m) (.slice a (pairs (canon m)).length c) ∧ B < w'.heap.size ∧
      w'.cell? ⟨B, 0, none⟩ = some (.int .i64 y) ∧ w'.cell? ⟨B, 1, none⟩ = some (.int .i64 n) ∧ w'.cell? ⟨B, 2, none⟩ = some (.int .u64 (m : Int)) :=
  (fspans_any m w hm).mono fun e w' ⟨u, he, hu⟩ => by
    obtain ⟨a, c, rfl, _⟩ := own_form hu.2
    exact ⟨a, c, he, hu, h.gr hu.1⟩

set_option maxHeartbeats 2000000 in
set_option maxRecDepth 100000 in
theorem boxes_any (T : Nat → Nat) (w : World) (hT : ∀ t, t < 16 → T t < 2 ^ 32) :
    Calls Tryz.prog 73 #[.agg (tArr T)] w fun e w' => ∃ u O, e = .returned u ∧ Gr w w' ∧ (∃ wl, Gr w wl ∧ OutAt wl w' O u) ∧ OkF (O.map (·.1)) ∧ O.length ≤ (blkT T 16).length ∧ ∀ t, t < 16 → tabF (O.map (·.1)) t = T t := by
  obtain ⟨i0, hi0, hz0, hz1, hz2⟩ := info_parts box_info
  have HS : Hid ((Tryz.prog.info? 128).map (·.size) = some (tArr T).size) := by rw [tArr_size]; exact table_info
  have HT := Lib.hid hT
  clear hT
  go_enter Tryz.func73, Tryz.ntmps73
  go_wp2_with (refine wpList_load_row rfl 128 _ rfl w.heap.size rfl 128 (tArr T) (0, 0) _ (heap_alloc_new _ _) Tryz.underlying128 rfl HS.out ?_)
  refine (blocks_any T _).mono ?_
  rintro e w1 ⟨u, rfl, hu⟩
  have R1 := Lib.hid hu.rd
  have G1 := ((Gr.refl w).alloc _).trans hu.1
  clear hu
  go_wp2_with fail
  go_loopw [3, 10] (fun v ii wr => ∃ (i : Nat) (M : List Bx), i ≤ 4 ∧ ii = .int .i64 i ∧ Gr w wr ∧ Rd3 wr v M ∧ OkF M ∧ M.length ≤ (blkT T 16).length ∧ (∀ t, t < 16 → tabF M t = T t)) (fun _ ii _ => 4 - (intOf ii).toNat)
  case atStart => exact ⟨0, blkT T 16, by omega, rfl, G1, R1.out, blkT_ok HT.out (by omega), Nat.le_refl _, fun t ht => by rw [tab_blkT T ht 16 (by omega), if_pos ht]⟩
  case round =>
    clear G1 R1
    obtain ⟨i, M, hi, rfl, hg, hrd, hM, hMl, hMt⟩ := hrel
    have hb16 := blkT_len T 16
    have HM := Lib.hid hM
    have HMt := Lib.hid hMt
    have HR := Lib.hid hrd
    clear hM hMt
    by_cases hlt : i < 4
    · have hp : wrap64 (2 ^ i) = ((2 ^ i : Nat) : Int) := by
        have h1 := pow16 i hlt
        have h2 : ((2 ^ i : Nat) : Int) = (2 : Int) ^ i := by simp
        rw [← h2]
        generalize 2 ^ i = x at *
        unfold wrap64
        omega
      have hi4 : (i : Int) < 4 := by omega
      clear hrd
      go_wp2_with fail
      rw [hp]
      refine (merge_any _ M i _ HR.out (by omega) HM.out hlt).mono ?_
      rintro e w2 ⟨u2, M2, rfl, hb2, hm2⟩
      have R2 := Lib.hid hb2.rd
      have G2 := hg.trans hb2.1
      have H2 := Lib.hid hm2
      clear hb2 hm2 hp
      go_wp2_with fail
      go_roundw
      case rel => exact ⟨i + 1, M2, by omega, by go_num, G2, R2.out, H2.out.1, by have := H2.out.2.1; omega, fun t ht => by rw [H2.out.2.2 t ht, List.take_length]; exact HMt.out t ht⟩
      case measure => simp [intOf]; omega
    · obtain rfl : i = 4 := by omega
      obtain ⟨a, cp, rfl, hcp, hx⟩ := hrd
      have HX := Lib.hid hx
      have hlen' : (M.length : Int) ≤ 16 := by omega
      clear hx
      generalize wr = wl at *
      go_wp2_with fail
      go_loopw [5, 20] (fun v kk wr => ∃ (k : Nat) (O : List (Bx × Value)), k ≤ M.length ∧ kk = .int .i64 k ∧ O.map (·.1) = M.take k ∧ OutAt wl wr O v) (fun _ kk _ => M.length - (intOf kk).toNat)
      case atStart => exact ⟨0, [], by omega, rfl, rfl, outAt_nil _⟩
      case round =>
        obtain ⟨k, O, hk, rfl, hO, hat⟩ := hrel
        have hOl : k = O.length := by have := congrArg List.length hO; simp at this; omega
        subst hOl
        have HO := Lib.hid hO
        have HA := Lib.hid hat
        clear hO
        generalize wr = wo at *
        by_cases hlt : O.length < M.length
        · obtain ⟨⟨⟨y, n⟩, m⟩, hp⟩ : ∃ p, M[O.length]? = some p := ⟨_, List.getElem?_eq_getElem hlt⟩
          obtain ⟨b, off, rfl, hb, hcell⟩ := HX.out (by intro e; rw [e] at hlt; simp at hlt)
          obtain ⟨c1, c2, c3⟩ := hcell O.length _ hp
          have hgl := hat.1
          rw [← hgl.cells.1 b _ hb] at c1 c2 c3
          simp only at c1 c2 c3
          have hbr : b < wo.heap.size := Nat.lt_of_lt_of_le hb hgl.le
          have hm32 := Lib.hid (HM.out _ (List.mem_of_getElem? hp)).2
          have hk16 : (O.length : Int) < 16 := by omega
          have HP := Lib.hid hp
          obtain ⟨ua, uc, rfl, huc⟩ := own_form hat.2.1
          clear hcell hp hat
          go_wp2_with fail
          have T1 := Lib.hid (Three.new wo y n (.int .u64 (m : Int)) 176)
          have HA1 := Lib.hid (HA.out.2.1.alloc (.cells #[.int .i64 (y : Int), .int .i64 (n : Int), .int .u64 (m : Int)] 176)).drew
          have GA : Hid (Gr wo (wo.alloc (.cells #[.int .i64 (y : Int), .int .i64 (n : Int), .int .u64 (m : Int)] 176)).drew) := ((Gr.refl wo).alloc _).drew
          have HBN : Hid (∀ kk, (Value.slice ua O.length uc).ownBlock = some kk → kk < wo.heap.size) := fun kk hkk => (HA.out.2.1.lt kk hkk).2
          have hbase := HA.out.1.le
          clear c1 c2 c3
          generalize wo.alloc (.cells #[.int .i64 (y : Int), .int .i64 (n : Int), .int .u64 (m : Int)] 176) = W1 at *
          generalize hBB : wo.heap.size = BB at *
          have hag : (Value.slice ua O.length uc).ownBlock ≠ some BB := fun e => by have := HBN.out _ e; omega
          clear hBB
          have T1d : Hid (Three W1.drew BB y n (.int .u64 (m : Int))) := T1.out.gr ((Gr.refl _).drew)
          obtain ⟨t1, t2, t3, t4⟩ := T1.out
          go_region_held3 (fun x => x.cell? ⟨BB, 0, none⟩ = some (.int .i64 (y : Int)) ∧ x.cell? ⟨BB, 1, none⟩ = some (.int .i64 (n : Int)) ∧ x.cell? ⟨BB, 2, none⟩ = some (.int .u64 (m : Int)))
            (first
              | go_keep
              | (go_split_ands
                 refine ⟨?_, ?_, ?_⟩
                 · (rw [hgrow.cell_far _ (by simp; omega) (Ne.symm hag)]; simp [go_sem, *])
                 · (rw [hgrow.cell_far _ (by simp; omega) (Ne.symm hag)]; simp [go_sem, *])
                 · (rw [hgrow.cell_far _ (by simp; omega) (Ne.symm hag)]; simp [go_sem, *])))
            (first
              | (go_at_call 122; refine (fspans_at BB _ _ m _ hm32.out T1d.out).mono ?_; rintro e w2 ⟨sa, sc, rfl, hls, hBl, k1, k2, k3⟩)
              | (refine step_append_lies _ (by rfl) _ _ _ (by rfl) wl.heap.size 96 i0 _ 3 40 Tryz.underlying23 hi0 hz0 hz1 hz2 rfl (by omega) (.slice ua O.length uc) O.length (flatO O) (by rfl) ((own_gr HA1.out hls.1).alloc _)
                  ⟨w2.heap.size, 0, none⟩ 1 1 [.int .i64 (y : Int), .int .i64 (n : Int), .slice sa (pairs (canon m)).length sc] (by rfl) (by rfl) (new3 _ _ _ _ _) (by simp [Value.oneCell'])
                  (by omega) (by simp only [maxLen]; omega) (by omega) (by simp; omega) (w2.heap.size + 1) (by simp) ?_; intro gg cap w3 hown1 hgrow hat hlt3))
          have HNEW := Lib.hid (HA.out.snoc (b := ((y, n), m)) GA.out hls hown1 hgrow hat)
          have HOM : Hid ((O ++ [(((y, n), m), Value.slice sa (pairs (canon m)).length sc)]).map (·.1) = M.take (O.length + 1)) := by
            have h1 := HP.out
            obtain ⟨hk1, e1⟩ := List.getElem?_eq_some_iff.1 h1
            unfold Hid
            rw [List.map_append, HO.out, List.take_succ_eq_append_getElem hk1, e1]
            rfl
          clear hls hown1 hgrow hat k1 k2 k3
          go_wp2_with fail
          go_roundw
          case rel =>
            (repeat apply Exists.intro)
            refine ⟨?_, rfl⟩
            exact ⟨O.length + 1, _, by omega, by go_num, HOM.out, HNEW.out⟩
          case measure => simp [intOf]; omega
        · have hkM : O.length = M.length := by omega
          rw [hkM] at HO
          have HG := Lib.hid (hg.trans hat.1)
          have HG2 := Lib.hid hg
          rw [List.take_length] at HO
          clear hat hg
          go_wp2_with fail
          go_ret
          exact ⟨_, O, rfl, HG.out, ⟨wl, HG2.out, HA.out⟩, by rw [HO.out]; exact HM.out, by omega, fun t ht => by rw [HO.out]; exact HMt.out t ht⟩
end Go.Proofs.YtghjfakellaecaaGreat

/- Joined: FilDJoin, FilDMeet, FilDLess. -/
/- The contract of package filter's combine, as Join calls it. -/
namespace Go.Proofs.YtghjfakellaecaaGreat
open Go.RowKit Rm
set_option linter.unusedVariables false

set_option maxHeartbeats 1000000 in
set_option maxRecDepth 100000 in
theorem fcombine_join (v v' : Value) (F G : List Bx) (w : World) (hl : RdF w v (F.map boxI)) (hr : RdF w v' (G.map boxI)) (hF : OkF F) (hG : OkF G) (hlF : F.length ≤ 40) (hlG : G.length ≤ 40) :
    Calls Tryz.prog 71 #[v, v', .func (.func 74) #[] #[]] w fun e w' => e = .returned (.tuple #[.agg (tArr fun t => tabF F t ||| tabF G t), .int .i64 0]) ∧ Gr w w' := by
  have HS : ∀ T, Hid ((Tryz.prog.info? 128).map (·.size) = some (tArr T).size) := fun T => by unfold Hid; rw [tArr_size]; exact table_info
  have hc1 := chkF_of hF hlF
  have hc2 := chkF_of hG hlG
  have HL := Lib.hid hl
  have HR := Lib.hid hr
  have HF := Lib.hid hF
  have HG := Lib.hid hG
  have HOP := Lib.hid uop_join
  obtain ⟨g, hge⟩ : ∃ g : Nat → Nat → Nat, g = (fun a b => a ||| b) := ⟨_, rfl⟩
  have HOPg : Hid (OpU 74 g) := by rw [hge]; exact HOP.out
  have HGE := Lib.hid hge
  clear hge HOP
  have HSZ := Lib.hid (fun (T U : Nat → Nat) => show (tArr T).size = (tArr U).size by rw [tArr_size, tArr_size])
  have H1 := Lib.hid tArr_one
  have HTF := Lib.hid (fun t => tabF_lt hF t)
  have HTG := Lib.hid (fun t => tabF_lt hG t)
  clear hl hr hF hG
  go_enter Tryz.func71, Tryz.ntmps71
  go_wp2_with fail
  refine (fcheck_any _ _ _ (HL.out.alloc _)).mono ?_
  rw [hc1]
  rintro e w1 ⟨rfl, g1⟩
  have HB1 : Hid (w1.heap[w.heap.size]? = some (.cells (tArr fun _ => 0) 128 (0, 0))) := (Below.block g1 _ (by simp)).trans (heap_alloc_new _ _)
  have G1 := ((Gr.refl w).alloc _).trans g1
  clear g1
  go_wp2_with fail
  refine (fcheck_any _ _ _ (HR.out.gr G1)).mono ?_
  rw [hc2]
  rintro e w2 ⟨rfl, g2⟩
  have HB2 : Hid (w2.heap[w.heap.size]? = some (.cells (tArr fun _ => 0) 128 (0, 0))) := (Below.block g2 _ (Blk_lt HB1.out)).trans HB1.out
  have G2 := G1.trans g2
  clear g2 HB1 G1
  go_wp2_with fail
  refine (tableOf_any _ _ _ (HL.out.gr G2) HF.out hlF).mono ?_
  rintro e w3 ⟨rfl, g3⟩
  have HB3 : Hid (w3.heap[w.heap.size]? = some (.cells (tArr fun _ => 0) 128 (0, 0))) := (Below.block g3 _ (Blk_lt HB2.out)).trans HB2.out
  have G3 := G2.trans g3
  clear g3 HB2 G2
  go_wp2_with fail
  refine (tableOf_any _ _ _ (HR.out.gr G3) HG.out hlG).mono ?_
  rintro e w4 ⟨rfl, g4⟩
  have HB4 : Hid (w4.heap[w.heap.size]? = some (.cells (tArr fun _ => 0) 128 (0, 0))) := (Below.block g4 _ (Blk_lt HB3.out)).trans HB3.out
  have G4 := G3.trans g4
  clear g4 HB3 G3
  have HLT := Lib.hid (Blk_lt HB4.out)
  go_wp2_with (first
    | (refine wpList_store_row rfl 128 (.tmp 10) (.tmp 26) rfl w4.heap.size _ rfl rfl 128 _ (heap_alloc2_old _ _ _) (HS _).out (HSZ.out (fun _ => 0) _) (H1.out _) ?_)
    | (refine wpList_store_row rfl 128 (.tmp 11) (.tmp 28) rfl (w4.heap.size + 1) _ rfl rfl 128 _ ((setRow_other _ _ _ _ (by omega)).trans (heap_alloc2_new _ _ _)) (HS _).out (HSZ.out (fun _ => 0) _) (H1.out _) ?_))
  have A0 := Lib.hid (combAt_start (T := tabF F) (U := tabF G) (A := tArr fun _ => 0) (B := tArr fun _ => 0) G4 HLT.out HB4.out)
  go_loopw [29] (fun jj wi => ∃ j : Nat, j ≤ 16 ∧ jj = .int .i64 j ∧ CombAt w wi w4.heap.size (midC g (tabF F) (tabF G) j) (tabF G)) (fun jj _ => 16 - (intOf jj).toNat)
  case atStart => exact ⟨0, by omega, rfl, A0.out.ext (fun i _ => by simp [midC])⟩
  case round =>
    clear A0
    obtain ⟨j, hj, rfl, hat⟩ := hrel
    generalize w4.heap.size = BB at *
    have HA := Lib.hid hat
    by_cases hjt : j < 16
    · have hj16 : (j : Int) < 16 := by omega
      have c1 : wr.cell? ⟨BB, j, none⟩ = some (.int .u64 (tabF F j : Nat)) := by
        rw [cell_of_row _ _ _ _ _ _ hat.2.2.2.1, tArr_at _ j hjt]
        simp [midC]
      have c2 : wr.cell? ⟨BB + 1, j, none⟩ = some (.int .u64 (tabF G j : Nat)) := by
        rw [cell_of_row _ _ _ _ _ _ hat.2.2.2.2, tArr_at _ j hjt]
      have hfz := frozen_of_row _ _ j _ _ hat.2.2.2.1
      have E : Hid (∀ i, i < 16 → (if i = j then g (tabF F j) (tabF G j) else midC g (tabF F) (tabF G) j i) = midC g (tabF F) (tabF G) (j + 1) i) := by
        intro i hi
        unfold midC
        by_cases e1 : i < j
        · rw [if_neg (by omega), if_pos e1, if_pos (by omega)]
        · by_cases e2 : i < j + 1
          · obtain rfl : i = j := by omega
            rw [if_pos rfl, if_pos e2]
          · rw [if_neg (by omega), if_neg e1, if_neg e2]
      clear hat
      go_wp2_with fail
      go_still_tail 10, (by kernel_rfl)
      still_call (HOPg.out _ _ (HTF.out j) (HTG.out j) _)
      repeat still_step
      refine wpStill_nil ?_
      change wpList _ _ _ _ _ wr.drew
      go_wp2_with fail
      go_roundw
      case rel => exact ⟨j + 1, by omega, by go_num, (HA.out.set j _ hjt).ext E.out⟩
      case measure => simp [intOf]; omega
    · obtain rfl : j = 16 := by omega
      have HA2 := Lib.hid (hat.ext (fun i hi => show midC g (tabF F) (tabF G) 16 i = g (tabF F i) (tabF G i) by simp [midC, hi]))
      have hg := hat.1
      clear hat HA
      go_wp2_with (first | (refine wpList_load_row rfl 128 _ rfl BB rfl 128 _ (0, 0) _ HA2.out.2.2.2.1 Tryz.underlying128 rfl (HS _).out ?_) | (refine wpList_store_row rfl 128 _ _ rfl w.heap.size _ rfl rfl 128 _ HA2.out.2.2.1 (HS _).out (HSZ.out (fun _ => 0) _) (H1.out _) ?_))
      refine bodyPost_ret (v := .tuple #[.agg (tArr fun t => g (tabF F t) (tabF G t)), .int .i64 0]) (results_row_tmp Tryz.results71 _ _ w.heap.size 128 _ (0, 0) _ _ rfl rfl (setRow_heap _ _ _ _ _ _ HA2.out.2.2.1) Tryz.underlying128 rfl (HS _).out) rfl ⟨by rw [HGE.out], ?_⟩
      exact hg.setRow (Nat.le_refl _) _
end Go.Proofs.YtghjfakellaecaaGreat
/- The contract of package filter's combine, as Meet calls it. -/
namespace Go.Proofs.YtghjfakellaecaaGreat
open Go.RowKit Rm
set_option linter.unusedVariables false

set_option maxHeartbeats 1000000 in
set_option maxRecDepth 100000 in
theorem fcombine_meet (v v' : Value) (F G : List Bx) (w : World) (hl : RdF w v (F.map boxI)) (hr : RdF w v' (G.map boxI)) (hF : OkF F) (hG : OkF G) (hlF : F.length ≤ 40) (hlG : G.length ≤ 40) :
    Calls Tryz.prog 71 #[v, v', .func (.func 72) #[] #[]] w fun e w' => e = .returned (.tuple #[.agg (tArr fun t => tabF F t &&& tabF G t), .int .i64 0]) ∧ Gr w w' := by
  have HS : ∀ T, Hid ((Tryz.prog.info? 128).map (·.size) = some (tArr T).size) := fun T => by unfold Hid; rw [tArr_size]; exact table_info
  have hc1 := chkF_of hF hlF
  have hc2 := chkF_of hG hlG
  have HL := Lib.hid hl
  have HR := Lib.hid hr
  have HF := Lib.hid hF
  have HG := Lib.hid hG
  have HOP := Lib.hid uop_meet
  obtain ⟨g, hge⟩ : ∃ g : Nat → Nat → Nat, g = (fun a b => a &&& b) := ⟨_, rfl⟩
  have HOPg : Hid (OpU 72 g) := by rw [hge]; exact HOP.out
  have HGE := Lib.hid hge
  clear hge HOP
  have HSZ := Lib.hid (fun (T U : Nat → Nat) => show (tArr T).size = (tArr U).size by rw [tArr_size, tArr_size])
  have H1 := Lib.hid tArr_one
  have HTF := Lib.hid (fun t => tabF_lt hF t)
  have HTG := Lib.hid (fun t => tabF_lt hG t)
  clear hl hr hF hG
  go_enter Tryz.func71, Tryz.ntmps71
  go_wp2_with fail
  refine (fcheck_any _ _ _ (HL.out.alloc _)).mono ?_
  rw [hc1]
  rintro e w1 ⟨rfl, g1⟩
  have HB1 : Hid (w1.heap[w.heap.size]? = some (.cells (tArr fun _ => 0) 128 (0, 0))) := (Below.block g1 _ (by simp)).trans (heap_alloc_new _ _)
  have G1 := ((Gr.refl w).alloc _).trans g1
  clear g1
  go_wp2_with fail
  refine (fcheck_any _ _ _ (HR.out.gr G1)).mono ?_
  rw [hc2]
  rintro e w2 ⟨rfl, g2⟩
  have HB2 : Hid (w2.heap[w.heap.size]? = some (.cells (tArr fun _ => 0) 128 (0, 0))) := (Below.block g2 _ (Blk_lt HB1.out)).trans HB1.out
  have G2 := G1.trans g2
  clear g2 HB1 G1
  go_wp2_with fail
  refine (tableOf_any _ _ _ (HL.out.gr G2) HF.out hlF).mono ?_
  rintro e w3 ⟨rfl, g3⟩
  have HB3 : Hid (w3.heap[w.heap.size]? = some (.cells (tArr fun _ => 0) 128 (0, 0))) := (Below.block g3 _ (Blk_lt HB2.out)).trans HB2.out
  have G3 := G2.trans g3
  clear g3 HB2 G2
  go_wp2_with fail
  refine (tableOf_any _ _ _ (HR.out.gr G3) HG.out hlG).mono ?_
  rintro e w4 ⟨rfl, g4⟩
  have HB4 : Hid (w4.heap[w.heap.size]? = some (.cells (tArr fun _ => 0) 128 (0, 0))) := (Below.block g4 _ (Blk_lt HB3.out)).trans HB3.out
  have G4 := G3.trans g4
  clear g4 HB3 G3
  have HLT := Lib.hid (Blk_lt HB4.out)
  go_wp2_with (first
    | (refine wpList_store_row rfl 128 (.tmp 10) (.tmp 26) rfl w4.heap.size _ rfl rfl 128 _ (heap_alloc2_old _ _ _) (HS _).out (HSZ.out (fun _ => 0) _) (H1.out _) ?_)
    | (refine wpList_store_row rfl 128 (.tmp 11) (.tmp 28) rfl (w4.heap.size + 1) _ rfl rfl 128 _ ((setRow_other _ _ _ _ (by omega)).trans (heap_alloc2_new _ _ _)) (HS _).out (HSZ.out (fun _ => 0) _) (H1.out _) ?_))
  have A0 := Lib.hid (combAt_start (T := tabF F) (U := tabF G) (A := tArr fun _ => 0) (B := tArr fun _ => 0) G4 HLT.out HB4.out)
  go_loopw [29] (fun jj wi => ∃ j : Nat, j ≤ 16 ∧ jj = .int .i64 j ∧ CombAt w wi w4.heap.size (midC g (tabF F) (tabF G) j) (tabF G)) (fun jj _ => 16 - (intOf jj).toNat)
  case atStart => exact ⟨0, by omega, rfl, A0.out.ext (fun i _ => by simp [midC])⟩
  case round =>
    clear A0
    obtain ⟨j, hj, rfl, hat⟩ := hrel
    generalize w4.heap.size = BB at *
    have HA := Lib.hid hat
    by_cases hjt : j < 16
    · have hj16 : (j : Int) < 16 := by omega
      have c1 : wr.cell? ⟨BB, j, none⟩ = some (.int .u64 (tabF F j : Nat)) := by
        rw [cell_of_row _ _ _ _ _ _ hat.2.2.2.1, tArr_at _ j hjt]
        simp [midC]
      have c2 : wr.cell? ⟨BB + 1, j, none⟩ = some (.int .u64 (tabF G j : Nat)) := by
        rw [cell_of_row _ _ _ _ _ _ hat.2.2.2.2, tArr_at _ j hjt]
      have hfz := frozen_of_row _ _ j _ _ hat.2.2.2.1
      have E : Hid (∀ i, i < 16 → (if i = j then g (tabF F j) (tabF G j) else midC g (tabF F) (tabF G) j i) = midC g (tabF F) (tabF G) (j + 1) i) := by
        intro i hi
        unfold midC
        by_cases e1 : i < j
        · rw [if_neg (by omega), if_pos e1, if_pos (by omega)]
        · by_cases e2 : i < j + 1
          · obtain rfl : i = j := by omega
            rw [if_pos rfl, if_pos e2]
          · rw [if_neg (by omega), if_neg e1, if_neg e2]
      clear hat
      go_wp2_with fail
      go_still_tail 10, (by kernel_rfl)
      still_call (HOPg.out _ _ (HTF.out j) (HTG.out j) _)
      repeat still_step
      refine wpStill_nil ?_
      change wpList _ _ _ _ _ wr.drew
      go_wp2_with fail
      go_roundw
      case rel => exact ⟨j + 1, by omega, by go_num, (HA.out.set j _ hjt).ext E.out⟩
      case measure => simp [intOf]; omega
    · obtain rfl : j = 16 := by omega
      have HA2 := Lib.hid (hat.ext (fun i hi => show midC g (tabF F) (tabF G) 16 i = g (tabF F i) (tabF G i) by simp [midC, hi]))
      have hg := hat.1
      clear hat HA
      go_wp2_with (first | (refine wpList_load_row rfl 128 _ rfl BB rfl 128 _ (0, 0) _ HA2.out.2.2.2.1 Tryz.underlying128 rfl (HS _).out ?_) | (refine wpList_store_row rfl 128 _ _ rfl w.heap.size _ rfl rfl 128 _ HA2.out.2.2.1 (HS _).out (HSZ.out (fun _ => 0) _) (H1.out _) ?_))
      refine bodyPost_ret (v := .tuple #[.agg (tArr fun t => g (tabF F t) (tabF G t)), .int .i64 0]) (results_row_tmp Tryz.results71 _ _ w.heap.size 128 _ (0, 0) _ _ rfl rfl (setRow_heap _ _ _ _ _ _ HA2.out.2.2.1) Tryz.underlying128 rfl (HS _).out) rfl ⟨by rw [HGE.out], ?_⟩
      exact hg.setRow (Nat.le_refl _) _
end Go.Proofs.YtghjfakellaecaaGreat
/- The contract of package filter's combine, as Less calls it. -/
namespace Go.Proofs.YtghjfakellaecaaGreat
open Go.RowKit Rm
set_option linter.unusedVariables false

end Go.Proofs.YtghjfakellaecaaGreat

