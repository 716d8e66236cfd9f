/- reedkeep.Within, set, knowBegun. -/
import Derived.Test.YtghjfakellaecaaKmD
set_option linter.unusedVariables false
set_option linter.unusedSimpArgs false
namespace Rm
open Go Go.RowKit Gx
/-- what Within makes of an integer -/
def wi (k : Int) (n : Nat) : Nat := (k % 18446744073709551616).toNat % n
theorem wi_lt (k : Int) (n : Nat) (h : 0 < n) : wi k n < n := Nat.mod_lt _ h
theorem kwrap64 (k : Int) : IntKind.u64.wrap k = (((k % 18446744073709551616).toNat : Nat) : Int) := by
  rw [IntKind.wrap_u64]; omega
/-- slices of integers, in a slice -/
def RdLL (w : World) (v : Value) (L : List (List Int)) : Prop :=
  ∃ a c, v = .slice a L.length c ∧ L.length ≤ c ∧ (L ≠ [] → ∃ b off, a = some ⟨b, off, none⟩ ∧ b < w.heap.size ∧ ∀ i x, L[i]? = some x → ∃ ua uc, w.cell? ⟨b, off + i * 1, none⟩ = some (.slice ua x.length uc) ∧ RdI1 w ua x)
theorem RdI1.gr {w w' : World} {a : Option Addr} {V : List Int} (h : RdI1 w a V) (g : Gr w w') : RdI1 w' a V := fun hn => by
  obtain ⟨b, off, h1, h2, h3⟩ := h hn
  exact ⟨b, off, h1, Nat.lt_of_lt_of_le h2 g.le, fun i x hx => (g.cells.1 b _ h2).trans (h3 i x hx)⟩
theorem RdLL.gr {w w' : World} {v : Value} {L : List (List Int)} (h : RdLL w v L) (g : Gr w w') : RdLL w' v L := by
  obtain ⟨a, c, e, hc, h⟩ := h
  refine ⟨a, c, e, hc, fun hn => ?_⟩
  obtain ⟨b, off, h1, h2, h3⟩ := h hn
  refine ⟨b, off, h1, Nat.lt_of_lt_of_le h2 g.le, fun i x hx => ?_⟩
  obtain ⟨ua, uc, q1, q2⟩ := h3 i x hx
  exact ⟨ua, uc, (g.cells.1 b _ h2).trans q1, q2.gr g⟩
/-- the dot that two integers name -/
def dotOf (c : List Int) : Option (Nat × Nat) := match c with
  | x :: y :: _ => some (wi x 5, 1 + wi y 12)
  | _ => none
def setN (L : List (List Int)) : List (Nat × Nat) := (L.take 40).filterMap dotOf
def setD (L : List (List Int)) : DS := fun s c => (setN L).contains (s, c)
theorem dotOf_in {c : List Int} {d : Nat × Nat} (h : dotOf c = some d) : d.1 < 5 ∧ 1 ≤ d.2 ∧ d.2 ≤ 12 := by
  match c, h with
  | x :: y :: _, h =>
    simp [dotOf] at h
    subst h
    have h1 := wi_lt x 5 (by omega)
    have h2 := wi_lt y 12 (by omega)
    simp only
    omega
theorem setN_in {L : List (List Int)} {d : Nat × Nat} (h : d ∈ setN L) : d.1 < 5 ∧ 1 ≤ d.2 ∧ d.2 ≤ 12 := by
  obtain ⟨c, _, hc⟩ := List.mem_filterMap.1 h
  exact dotOf_in hc
theorem setD_small (L : List (List Int)) : ∀ s c, setD L s c = true → s < 5 ∧ 1 ≤ c ∧ c ≤ 12 := fun s c h => by
  have : (s, c) ∈ setN L := by simpa [setD] using h
  exact setN_in this
theorem dotOf_two {c : List Int} {x y : Int} (h0 : c[0]? = some x) (h1 : c[1]? = some y) : dotOf c = some (wi x 5, 1 + wi y 12) := by
  match c, h0, h1 with
  | a :: b :: _, h0, h1 => simp at h0 h1; subst h0 h1; rfl
theorem dotOf_none {c : List Int} (h : ¬ 1 < c.length) : dotOf c = none := by
  match c with
  | [] => rfl
  | [a] => rfl
  | a :: b :: _ => simp at h
/-- a set whose dots have small counts has few behind its vector -/
theorem small_form {D : DS} (h : ∀ s c, D s c = true → s < 5 ∧ 1 ≤ c ∧ c ≤ 12) : (formM D).length ≤ 60 := by
  have key : ∀ s, (restD D s).length ≤ 11 := by
    intro s
    unfold restD
    rw [List.length_map]
    have : ((List.range 1001).filter fun c => decide (run D s + 2 ≤ c) && D s c).length ≤ ((List.range 1001).filter fun c => decide (2 ≤ c ∧ c ≤ 12)).length := by
      rw [← List.countP_eq_length_filter, ← List.countP_eq_length_filter]
      apply List.countP_mono_left
      intro c _ hc
      simp only [Bool.and_eq_true, decide_eq_true_eq] at hc ⊢
      have := h s c hc.2
      omega
    refine Nat.le_trans this ?_
    decide +kernel
  have k0 := key 0
  have k1 := key 1
  have k2 := key 2
  have k3 := key 3
  have k4 := key 4
  show ((List.range 5).flatMap (restD D)).length ≤ 60
  have e : (List.range 5).flatMap (restD D) = restD D 0 ++ restD D 1 ++ restD D 2 ++ restD D 3 ++ restD D 4 := by
    rw [show List.range 5 = [0, 1, 2, 3, 4] from rfl]
    simp [List.flatMap_cons, List.append_assoc]
  rw [e]
  simp only [List.length_append]
  omega
theorem form_21 : frE (addD (memB [] [(0, 2)]) 0 1) = 0 ∧ frV (addD (memB [] [(0, 2)]) 0 1) = [2] ∧ frM (addD (memB [] [(0, 2)]) 0 1) = [] := by
  have hok : OkV [2] [] := ⟨by simp, by simp, by simp, by simp, by simp⟩
  have he : EqD (memB [2] []) (addD (memB [] [(0, 2)]) 0 1) := by
    intro s c hi
    have h1 := hi.2.1
    rw [Bool.eq_iff_iff]
    unfold addD
    rw [Bool.or_eq_true, memB_iff, memB_iff]
    simp only [List.not_mem_nil, or_false, List.mem_singleton, Prod.mk.injEq, decide_eq_true_eq]
    match s with
    | 0 => simp [cv]; omega
    | s + 1 => simp [cv]
  obtain ⟨h1, h2⟩ := hok.form he
  unfold frE frV frM
  rw [h1, h2]
  simp
theorem set_step {X : Nat → Nat} {L : List (List Int)} {i : Nat} {c : List Int} {x y : Int} (hc : L[i]? = some c) (h0 : c[0]? = some x) (h1 : c[1]? = some y)
    (h : ∀ s q, s < 5 → q < 1024 → dsX X s q = ((L.take i).filterMap dotOf).contains (s, q)) :
    ∀ s q, s < 5 → q < 1024 → dsX (withX X (wi x 5) (1 + wi y 12)) s q = ((L.take (i + 1)).filterMap dotOf).contains (s, q) := by
  intro s q hs hq
  have h12 := wi_lt y 12 (by omega)
  rw [dsX_with X _ _ s q (by omega) hq, h s q hs hq, List.take_add_one, hc, List.filterMap_append]
  simp [dotOf_two h0 h1]
theorem set_skip {X : Nat → Nat} {L : List (List Int)} {i : Nat} {c : List Int} (hc : L[i]? = some c) (hn : ¬ 1 < c.length)
    (h : ∀ s q, s < 5 → q < 1024 → dsX X s q = ((L.take i).filterMap dotOf).contains (s, q)) :
    ∀ s q, s < 5 → q < 1024 → dsX X s q = ((L.take (i + 1)).filterMap dotOf).contains (s, q) := by
  intro s q hs hq
  rw [h s q hs hq, List.take_add_one, hc, List.filterMap_append]
  simp [dotOf_none hn]
theorem take_min (L : List (List Int)) {i : Nat} (h : i = min L.length 40) : L.take i = L.take 40 := by
  subst h
  rcases Nat.le_total L.length 40 with q | q
  · rw [Nat.min_eq_left q, List.take_of_length_le (Nat.le_refl _), List.take_of_length_le q]
  · rw [Nat.min_eq_right q]
end Rm
namespace Go.Proofs.Ytghjfakellaecaa
open Go.RowKit Rm Gx
set_option maxHeartbeats 8000000 in
set_option maxRecDepth 100000 in
theorem kwithin_any (k : Int) (n : Nat) (hn : 0 < n) (hn2 : n < 1000000) (w : World) :
    Calls Try.prog 24 #[.int .i64 (k), .int .i64 (n : Int)] w fun e w' => e = .returned (.int .i64 ((wi k n : Nat) : Int)) ∧ Gr w w' := by
  refine enter (N := 11) Try.func24 rfl rfl rfl (fun a0 ok0 h0 => ?_)
  have e0_0 : a0.eval (.tmp 0) = .int .i64 (k) := h0 0 _ rfl
  have e0_1 : a0.eval (.tmp 1) = .int .i64 (n : Int) := h0 1 _ rfl
  clear h0
  have G0 := Gr.refl w
  refine wp_seq_k (fun K1 hK1 => ?_)
  refine wp_region_lit ?_
  refine sv ok0 rfl (wn _ rfl) rfl (o_as ev_const) (fun an2 n2 => ?_)
  refine wpList_nil ?_
  refine th_n (hK1 _ _ ?_)
  refine wp_seq_k (fun K3 hK3 => ?_)
  refine wp_region_lit ?_
  refine sv n2.ok rfl (wn _ rfl) rfl (o_mv (n2.ne rfl e0_0)) (fun an4 n4 => ?_)
  refine sv n4.ok rfl (wn _ rfl) rfl (o_cv n4.at_ Try.underlying3 Try.underlying83 (kwrap64 k)) (fun an5 n5 => ?_)
  have e6 := n5.ne rfl (n4.ne rfl (n2.ne rfl e0_1))
  refine sv n5.ok rfl (wn _ rfl) rfl (o_mv e6) (fun an7 n7 => ?_)
  refine sv n7.ok rfl (wn _ rfl) rfl (o_cv n7.at_ Try.underlying3 Try.underlying83 (IntWalk.u64_in _ (by omega))) (fun an8 n8 => ?_)
  have hlt := wi_lt k n hn
  refine sv n8.ok rfl (wn _ rfl) rfl (o_remU (i := (k % 18446744073709551616).toNat) (j := n) (r := wi k n) (n8.ne rfl (n7.ne rfl n5.at_)) n8.at_ hn rfl) (fun an9 n9 => ?_)
  refine sv n9.ok rfl (wn _ rfl) rfl (o_cv n9.at_ Try.underlying83 Try.underlying3 (IntWalk.i64_in _ (by omega))) (fun an10 n10 => ?_)
  refine sv n10.ok rfl (wn _ rfl) rfl (o_as n10.at_) (fun an11 n11 => ?_)
  refine wpList_nil ?_
  refine th_n (hK3 _ _ ?_)
  refine wp_ret ?_
  exact ret1 n11.ok rfl (n11.at_) ⟨rfl, G0⟩
set_option maxHeartbeats 8000000 in
set_option maxRecDepth 100000 in
theorem set_k (va : Option Addr) (vc : Nat) (L : List (List Int)) (hvc : L.length ≤ vc) (w : World) (hL : L ≠ [] → ∃ b off, va = some ⟨b, off, none⟩ ∧ b < w.heap.size ∧ ∀ i x, L[i]? = some x → ∃ ua uc, w.cell? ⟨b, off + i * 1, none⟩ = some (.slice ua x.length uc) ∧ RdI1 w ua x) :
    Calls Try.prog 55 #[.slice va L.length vc] w fun e w' => ∃ k, e = .returned k ∧ KnO w.heap.size w' k (formV (setD L)) (formM (setD L)) ∧ Gr w w' := by
  refine enter (N := 40) Try.func55 rfl rfl rfl (fun a0 ok0 h0 => ?_)
  have e0_0 : a0.eval (.tmp 0) = .slice va L.length vc := h0 0 _ rfl
  clear h0
  have G0 := Gr.refl w
  refine wp_seq_k (fun K1 hK1 => ?_)
  refine wp_region_lit ?_
  refine sal (cs := #[.slice none 0 0, .slice none 0 0]) ok0 rfl (wn _ rfl) rfl (o_al (z := .agg #[.slice none 0 0, .slice none 0 0]) (by kernel_rfl)) (fun an2 w4 b3 W5 n2 => ?_)
  have l6 : w.heap.size ≤ b3 := by rw [W5.eq]; exact G0.size
  have G7 := G0.trans W5.gr
  refine wpList_nil ?_
  refine th_n (hK1 _ _ ?_)
  refine wp_seq_k (fun K8 hK8 => ?_)
  refine wp_region_lit ?_
  refine sal (cs := wArr (fun _ => 0)) n2.ok rfl (wn _ rfl) rfl (o_al (z := .agg (wArr (fun _ => 0))) dots_zero) (fun an9 w11 b10 W12 n9 => ?_)
  have l13 : b3 < b10 := by rw [W12.eq]; exact W5.bk.lt
  have l14 : w.heap.size ≤ b10 := by rw [W12.eq]; exact G7.size
  have G15 := G7.trans W12.gr
  have B16 := W5.bk.gr W12.gr
  refine wpList_nil ?_
  refine th_n (hK8 _ _ ?_)
  refine wp_seq_k (fun K17 hK17 => ?_)
  refine wp_seq_k (fun K18 hK18 => ?_)
  refine wp_region_lit ?_
  refine sv n9.ok rfl (wn _ rfl) rfl (o_mv (n9.ne rfl (n2.ne rfl e0_0))) (fun an19 n19 => ?_)
  have e20 := n19.ne rfl (n9.ne rfl (n2.ne rfl e0_0))
  refine sv n19.ok rfl (wn _ rfl) rfl (o_mv e20) (fun an21 n21 => ?_)
  refine sv n21.ok rfl (wn _ rfl) rfl (o_len n21.at_ Try.underlying98) (fun an22 n22 => ?_)
  refine sv n22.ok rfl (wn _ rfl) rfl (o_min n22.at_ ev_const (nmin_int _ _)) (fun an23 n23 => ?_)
  have e24 := n23.ne rfl (n22.ne rfl (n21.ne rfl n19.at_))
  refine sv n23.ok rfl (wn _ rfl) rfl (o_cut (k := min (L.length) (40)) (s := 1) e24 n23.at_ Try.underlying98 (by kernel_rfl) (by omega)) (fun an25 n25 => ?_)
  refine sv n25.ok rfl (wn _ rfl) rfl (o_len n25.at_ Try.underlying98) (fun an26 n26 => ?_)
  refine sv n26.ok rfl (wn _ rfl) rfl (o_mv ev_const) (fun an27 n27 => ?_)
  refine wpList_nil ?_
  refine th_n (hK18 _ _ ?_)
  refine wp_block ?_
  have e29 := n27.ne rfl (n26.ne rfl (n25.ne rfl (n23.ne rfl (n22.ne rfl (n21.ne rfl (n19.ne rfl (n9.ne rfl n2.at_)))))))
  have e30 := n27.ne rfl (n26.ne rfl (n25.ne rfl (n23.ne rfl (n22.ne rfl (n21.ne rfl (n19.ne rfl n9.at_))))))
  refine lp (fun (nL : Nat) (aL : Act) (wL : World) => ∃ i : Nat, ∃ X : Nat → Nat, nL = min L.length 40 - i ∧ Ok 40 aL ∧ Gr w wL ∧ (aL.eval (.tmp 2) = .pointer (some ⟨b3, 0, none⟩)) ∧ (aL.eval (.tmp 3) = .pointer (some ⟨b10, 0, none⟩)) ∧ (aL.eval (.tmp 12) = .slice va (min (L.length) (40)) vc) ∧ (aL.eval (.tmp 13) = .int .i64 ((min (L.length) (40) : Nat) : Int)) ∧ (aL.eval (.tmp 14) = .int .i64 (i : Int)) ∧ (Bk wL b3 #[.slice none 0 0, .slice none 0 0] 35) ∧ (Bk wL b10 (wArr X) 86) ∧ (i ≤ min L.length 40) ∧ (OkX X) ∧ (∀ s q, s < 5 → q < 1024 → dsX X s q = ((L.take i).filterMap dotOf).contains (s, q))) _ ⟨0, (fun _ => 0), rfl, n27.ok, G15, e29, e30, (n27.ne rfl (n26.ne rfl n25.at_)), (n27.ne rfl n26.at_), n27.at_, B16, W12.bk, by omega, OkX.zero, fun s q h1 h2 => by rw [dsX_zero]; simp⟩ ?_
  rintro m31 aI28 w33 ⟨i, X, hmI28, okI28, GI28, s2I28, s3I28, s12I28, s13I28, s14I28, kb3I28, kb10I28, hiI28, hXI28, hDI28⟩ KI28 hKI28
  refine wp_seq_k (fun K34 hK34 => ?_)
  refine wp_region_lit ?_
  refine sv okI28 rfl (wn _ rfl) rfl (o_ltI s14I28 s13I28) (fun an35 n35 => ?_)
  refine wpList_nil ?_
  refine th_n (hK34 _ _ ?_)
  refine wp_seq_k (fun K36 hK36 => ?_)
  by_cases c37 : (i : Int) < ((min (L.length) (40) : Nat) : Int)
  · refine wp_cond_true ((n35.at_).trans (congrArg Value.bool (decide_eq_true c37))) ?_
    refine wp_skip ?_
    refine th_n (hK36 _ _ ?_)
    refine wp_seq_k (fun K38 hK38 => ?_)
    refine wp_block ?_
    refine wp_seq_k (fun K39 hK39 => ?_)
    refine wp_region_lit ?_
    have h40l : i < List.length L := by omega
    obtain ⟨bh40, fh40, h40a, h40b, h40c⟩ := hL (ne_nil_of_lt h40l)
    obtain ⟨xh40, h40x⟩ : ∃ x, L[i]? = some x := ⟨_, List.getElem?_eq_getElem h40l⟩
    obtain ⟨uh40, vh40, h40d, h40e⟩ := h40c _ _ h40x
    refine sv n35.ok rfl (wn _ rfl) rfl (o_iaV (i := i) (s := 1) h40a (n35.ne rfl s12I28) (n35.ne rfl s14I28) Try.underlying98 (by kernel_rfl) (by omega)) (fun an41 n41 => ?_)
    refine sv n41.ok rfl (wn _ rfl) rfl (o_ld n41.at_ (Try.isAgg32 _) ((Below.cell GI28 h40b).trans h40d)) (fun an42 n42 => ?_)
    refine sv n42.ok rfl (wn _ rfl) rfl (o_as n42.at_) (fun an43 n43 => ?_)
    refine wpList_nil ?_
    refine th_n (hK39 _ _ ?_)
    refine wp_seq_k (fun K44 hK44 => ?_)
    refine wp_region_lit ?_
    refine sv n43.ok rfl (wn _ rfl) rfl (o_mv n43.at_) (fun an45 n45 => ?_)
    refine sv n45.ok rfl (wn _ rfl) rfl (o_len n45.at_ Try.underlying32) (fun an46 n46 => ?_)
    refine sv n46.ok rfl (wn _ rfl) rfl (o_gtI n46.at_ ev_const) (fun an47 n47 => ?_)
    refine wpList_nil ?_
    refine th_n (hK44 _ _ ?_)
    by_cases c48 : (1 : Int) < ((xh40.length : Nat) : Int)
    · refine wp_cond_true ((n47.at_).trans (congrArg Value.bool (decide_eq_true c48))) ?_
      refine reg_start (N := 40) (m := 12) (by kernel_rfl) (fun R490 => ?_)
      have e50 := n47.ne rfl (n46.ne rfl (n45.ne rfl (n43.ne rfl (n42.ne rfl (n41.ne rfl (n35.ne rfl s3I28))))))
      have R491 := R490.snoc (n' := 1) rfl (fun vJ _ => vJ = .agg (wArr X)) rfl (fun _ _ _ _ h => h) (fun aS wS pS => by
          exact Does.val (wn _ rfl) (o_ldR ((pS.old 3 rfl).trans e50) (Bk.gr kb10I28 (gr_drew pS.gr)) Try.underlying86 rfl (dots_sz X)) (Gr.refl _) rfl rfl)
      have e51 := n47.ne rfl (n46.ne rfl (n45.ne rfl n43.at_))
      have R492 := R491.snoc (n' := 2) rfl (fun vJ _ => vJ = .slice uh40 xh40.length vh40) rfl (fun _ _ _ _ h => h) (fun aS wS pS => by
          exact Does.val (wn _ rfl) (o_mv ((pS.old 5 rfl).trans e51)) (Gr.refl _) rfl rfl)
      have h52l : 0 < List.length xh40 := by omega
      obtain ⟨bh52, fh52, h52a, h52b, h52c⟩ := h40e (ne_nil_of_lt h52l)
      obtain ⟨xh52, h52x⟩ : ∃ x, xh40[0]? = some x := ⟨_, List.getElem?_eq_getElem h52l⟩
      have R493 := R492.snoc (n' := 3) rfl (fun vJ _ => vJ = .pointer (some ⟨bh52, fh52 + 0 * 1, none⟩)) rfl (fun _ _ _ _ h => h) (fun aS wS pS => by
          have eR49_1 : aS.eval (.tmp 22) = .slice uh40 xh40.length vh40 := pS.pre 1 rfl
          exact Does.val (wn _ rfl) (o_iaV (i := 0) (s := 1) h52a (eR49_1) ev_const Try.underlying32 (by kernel_rfl) h52l) (Gr.refl _) rfl rfl)
      have R494 := R493.snoc (n' := 4) rfl (fun vJ _ => vJ = .int .i64 (xh52)) rfl (fun _ _ _ _ h => h) (fun aS wS pS => by
          have eR49_2 : aS.eval (.tmp 23) = .pointer (some ⟨bh52, fh52 + 0 * 1, none⟩) := pS.pre 2 rfl
          exact Does.val (wn _ rfl) (o_ld (eR49_2) (Try.isAgg3 _) ((Below.cell (GI28.trans (gr_drew pS.gr)) h52b).trans (h52c _ _ h52x))) (Gr.refl _) rfl rfl)
      have hw53 := wi_lt xh52 5 (by omega)
      have R495 := R494.snoc (n' := 5) rfl (fun vJ _ => vJ = .int .i64 ((wi xh52 5 : Nat) : Int)) rfl (fun _ _ _ _ h => h) (fun aS wS pS => by
          have eR49_3 : aS.eval (.tmp 24) = .int .i64 (xh52) := pS.pre 3 rfl
          exact Does.call (wn _ rfl) (o_f2 Try.func24 rfl rfl rfl (eR49_3) ev_const) (kwithin_any xh52 5 (by omega) (by omega) wS) (by rintro _ w2 ⟨rfl, g⟩; exact ⟨_, rfl, g, rfl⟩) rfl)
      have R496 := R495.snoc (n' := 6) rfl (fun vJ _ => vJ = .slice uh40 xh40.length vh40) rfl (fun _ _ _ _ h => h) (fun aS wS pS => by
          exact Does.val (wn _ rfl) (o_mv ((pS.old 5 rfl).trans e51)) (Gr.refl _) rfl rfl)
      have h54l : 1 < List.length xh40 := by omega
      obtain ⟨bh54, fh54, h54a, h54b, h54c⟩ := h40e (ne_nil_of_lt h54l)
      obtain ⟨xh54, h54x⟩ : ∃ x, xh40[1]? = some x := ⟨_, List.getElem?_eq_getElem h54l⟩
      have R497 := R496.snoc (n' := 7) rfl (fun vJ _ => vJ = .pointer (some ⟨bh54, fh54 + 1 * 1, none⟩)) rfl (fun _ _ _ _ h => h) (fun aS wS pS => by
          have eR49_5 : aS.eval (.tmp 26) = .slice uh40 xh40.length vh40 := pS.pre 5 rfl
          exact Does.val (wn _ rfl) (o_iaV (i := 1) (s := 1) h54a (eR49_5) ev_const Try.underlying32 (by kernel_rfl) h54l) (Gr.refl _) rfl rfl)
      have R498 := R497.snoc (n' := 8) rfl (fun vJ _ => vJ = .int .i64 (xh54)) rfl (fun _ _ _ _ h => h) (fun aS wS pS => by
          have eR49_6 : aS.eval (.tmp 27) = .pointer (some ⟨bh54, fh54 + 1 * 1, none⟩) := pS.pre 6 rfl
          exact Does.val (wn _ rfl) (o_ld (eR49_6) (Try.isAgg3 _) ((Below.cell (GI28.trans (gr_drew pS.gr)) h54b).trans (h54c _ _ h54x))) (Gr.refl _) rfl rfl)
      have hw55 := wi_lt xh54 12 (by omega)
      have R499 := R498.snoc (n' := 9) rfl (fun vJ _ => vJ = .int .i64 ((wi xh54 12 : Nat) : Int)) rfl (fun _ _ _ _ h => h) (fun aS wS pS => by
          have eR49_7 : aS.eval (.tmp 28) = .int .i64 (xh54) := pS.pre 7 rfl
          exact Does.call (wn _ rfl) (o_f2 Try.func24 rfl rfl rfl (eR49_7) ev_const) (kwithin_any xh54 12 (by omega) (by omega) wS) (by rintro _ w2 ⟨rfl, g⟩; exact ⟨_, rfl, g, rfl⟩) rfl)
      have R4910 := R499.snoc (n' := 10) rfl (fun vJ _ => vJ = .int .i64 ((1 + (wi xh54 12) : Nat) : Int)) rfl (fun _ _ _ _ h => h) (fun aS wS pS => by
          have eR49_8 : aS.eval (.tmp 29) = .int .i64 ((wi xh54 12 : Nat) : Int) := pS.pre 8 rfl
          exact Does.val (wn _ rfl) (o_add (r := ((1 + (wi xh54 12) : Nat) : Int)) ev_const (eR49_8) (by omega) (by omega)) (Gr.refl _) rfl rfl)
      have R4911 := R4910.snoc (n' := 11) rfl (fun vJ _ => vJ = .agg #[.int .i64 ((wi xh52 5 : Nat) : Int), .int .i64 ((1 + (wi xh54 12) : Nat) : Int)]) rfl (fun _ _ _ _ h => h) (fun aS wS pS => by
          have eR49_4 : aS.eval (.tmp 25) = .int .i64 ((wi xh52 5 : Nat) : Int) := pS.pre 4 rfl
          have eR49_9 : aS.eval (.tmp 30) = .int .i64 ((1 + (wi xh54 12) : Nat) : Int) := pS.pre 9 rfl
          exact Does.val (wn _ rfl) (o_bd (cells := #[.int .i64 ((wi xh52 5 : Nat) : Int), .int .i64 ((1 + (wi xh54 12) : Nat) : Int)]) (vs := [(0, .int .i64 ((wi xh52 5 : Nat) : Int)), (1, .int .i64 ((1 + (wi xh54 12) : Nat) : Int))]) (by simp [(eR49_4), (eR49_9), ev_const]) (by kernel_rfl)) (Gr.refl _) rfl rfl)
      have R4912 := R4911.snoc (n' := 12) rfl (fun vJ _ => vJ = .agg (wArr (withX X (wi xh52 5) (1 + (wi xh54 12))))) rfl (fun _ _ _ _ h => h) (fun aS wS pS => by
          have eR49_0 : aS.eval (.tmp 21) = .agg (wArr X) := pS.pre 0 rfl
          have eR49_10 : aS.eval (.tmp 31) = .agg #[.int .i64 ((wi xh52 5 : Nat) : Int), .int .i64 ((1 + (wi xh54 12) : Nat) : Int)] := pS.pre 10 rfl
          exact Does.call (wn _ rfl) (o_f2 Try.func82 rfl rfl rfl (eR49_0) (eR49_10)) (rwith_any X (wi xh52 5) (1 + (wi xh54 12)) wS hXI28 (wi_lt _ 5 (by omega)) (by have := wi_lt xh54 12 (by omega); omega)) (by rintro _ w2 ⟨rfl, g⟩; exact ⟨_, rfl, g, rfl⟩) rfl)
      refine R4912.run (k := 1) (L := #[true, true, true, true, true, true, true, true, true, true, true, true, false]) (by kernel_rfl) (by kernel_rfl) (by kernel_rfl) n47.ok (by kernel_rfl) (by kernel_rfl) (fun ap57 w58 p57 => ?_)
      have g59 := gr_drew p57.gr
      have G60 := GI28.trans g59
      have B61 := kb3I28.gr g59
      have B62 := kb10I28.gr g59
      have ep57_11 : ap57.eval (.tmp 32) = .agg (wArr (withX X (wi xh52 5) (1 + (wi xh54 12)))) := p57.js 11 rfl
      refine t_stR (i := 12) (by kernel_rfl) rfl rfl (wn _ rfl) (o_stR ((p57.old 3 rfl).trans e50) ep57_11 B62 (dots_sz (withX X (wi xh52 5) (1 + (wi xh54 12)))) (by rw [wArr_size, wArr_size]) (wArr_one (withX X (wi xh52 5) (1 + (wi xh54 12))))) B62 (fun w63 u64 u64b => ?_)
      have G65 : Gr w w63 := Below.upd G60 l14 u64
      have B66 := B61.upd u64 (Nat.ne_of_lt l13)
      refine wpAny_done (by kernel_rfl) ?_ _
      refine ib_n ?_
      refine th_n (hK38 _ _ ?_)
      refine wp_region_lit ?_
      have e67 := (p57.old 14 rfl).trans (n47.ne rfl (n46.ne rfl (n45.ne rfl (n43.ne rfl (n42.ne rfl (n41.ne rfl (n35.ne rfl s14I28)))))))
      refine sv p57.ok rfl (wn _ rfl) rfl (o_add (r := ((i + 1 : Nat) : Int)) e67 ev_const (by omega) (by omega)) (fun an68 n68 => ?_)
      refine sv n68.ok rfl (wn _ rfl) rfl (o_mv n68.at_) (fun an69 n69 => ?_)
      refine wpList_nil ?_
      have e70 := n69.ne rfl (n68.ne rfl ((p57.old 2 rfl).trans (n47.ne rfl (n46.ne rfl (n45.ne rfl (n43.ne rfl (n42.ne rfl (n41.ne rfl (n35.ne rfl s2I28)))))))))
      have e71 := n69.ne rfl (n68.ne rfl ((p57.old 3 rfl).trans e50))
      have e72 := n69.ne rfl (n68.ne rfl ((p57.old 12 rfl).trans (n47.ne rfl (n46.ne rfl (n45.ne rfl (n43.ne rfl (n42.ne rfl (n41.ne rfl (n35.ne rfl s12I28)))))))))
      have e73 := n69.ne rfl (n68.ne rfl ((p57.old 13 rfl).trans (n47.ne rfl (n46.ne rfl (n45.ne rfl (n43.ne rfl (n42.ne rfl (n41.ne rfl (n35.ne rfl s13I28)))))))))
      exact th_n (hKI28 _ _ _ (by omega) ⟨i + 1, withX X (wi xh52 5) (1 + wi xh54 12), rfl, n69.ok, G65, e70, e71, e72, e73, n69.at_, B66, u64b, by omega, hXI28.with _ _, set_step h40x h52x h54x hDI28⟩)
    · refine wp_cond_false ((n47.at_).trans (congrArg Value.bool (decide_eq_false c48))) ?_
      refine wp_skip ?_
      refine ib_n ?_
      refine th_n (hK38 _ _ ?_)
      refine wp_region_lit ?_
      have e74 := n47.ne rfl (n46.ne rfl (n45.ne rfl (n43.ne rfl (n42.ne rfl (n41.ne rfl (n35.ne rfl s14I28))))))
      refine sv n47.ok rfl (wn _ rfl) rfl (o_add (r := ((i + 1 : Nat) : Int)) e74 ev_const (by omega) (by omega)) (fun an75 n75 => ?_)
      refine sv n75.ok rfl (wn _ rfl) rfl (o_mv n75.at_) (fun an76 n76 => ?_)
      refine wpList_nil ?_
      have e77 := n76.ne rfl (n75.ne rfl (n47.ne rfl (n46.ne rfl (n45.ne rfl (n43.ne rfl (n42.ne rfl (n41.ne rfl (n35.ne rfl s2I28))))))))
      have e78 := n76.ne rfl (n75.ne rfl (n47.ne rfl (n46.ne rfl (n45.ne rfl (n43.ne rfl (n42.ne rfl (n41.ne rfl (n35.ne rfl s3I28))))))))
      have e79 := n76.ne rfl (n75.ne rfl (n47.ne rfl (n46.ne rfl (n45.ne rfl (n43.ne rfl (n42.ne rfl (n41.ne rfl (n35.ne rfl s12I28))))))))
      have e80 := n76.ne rfl (n75.ne rfl (n47.ne rfl (n46.ne rfl (n45.ne rfl (n43.ne rfl (n42.ne rfl (n41.ne rfl (n35.ne rfl s13I28))))))))
      exact th_n (hKI28 _ _ _ (by omega) ⟨i + 1, X, rfl, n76.ok, GI28, e77, e78, e79, e80, n76.at_, kb3I28, kb10I28, by omega, hXI28, set_skip h40x (by omega) hDI28⟩)
  · refine wp_cond_false ((n35.at_).trans (congrArg Value.bool (decide_eq_false c37))) ?_
    have hE : EqD (dsX X) (setD L) := fun s c hi => by
      rw [hDI28 s c hi.1 (by have := hi.2.2; omega), take_min L (i := i) (by omega)]; rfl
    have hfc := form_congr hE
    refine wp_exit ?_
    refine th_x ?_
    refine th_x ?_
    refine ib_x ?_
    refine th_n (hK17 _ _ ?_)
    refine wp_seq_k (fun K81 hK81 => ?_)
    refine wp_region_lit ?_
    refine sv n35.ok rfl (wn _ rfl) rfl (o_ldR (n35.ne rfl s3I28) kb10I28 Try.underlying86 rfl (dots_sz X)) (fun an82 n82 => ?_)
    obtain ⟨h1, z83⟩ : ∃ n, n = w33.heap.size := ⟨_, rfl⟩
    have l84 : b3 < h1 := by rw [z83]; exact kb3I28.lt
    have l85 : b10 < h1 := by rw [z83]; exact kb10I28.lt
    have l86 : w.heap.size ≤ h1 := by rw [z83]; exact GI28.size
    have z87 : h1 ≤ w33.heap.size := Nat.le_of_eq z83
    refine sc n82.ok rfl (wn _ rfl) rfl (o_f1 Try.func89 rfl rfl rfl n82.at_) (rform_any X hXI28 w33) ?_
    rintro _ w89 ⟨k, rfl, hk, g90⟩
    rw [hfc.1, hfc.2] at hk
    obtain ⟨kvf, kmf, rfl, hVf, hMf⟩ := hk
    obtain ⟨vaf, vcf, rfl, -⟩ := ow_form hVf
    obtain ⟨maf, mcf, rfl, -⟩ := ow_form hMf
    have oV := own_less hVf z87
    have oM := own_less hMf z87
    refine ⟨_, rfl, fun an88 n88 => ?_⟩
    have G91 := GI28.trans g90
    have B92 := kb3I28.gr g90
    have B93 := kb10I28.gr g90
    have z94 := Nat.le_trans z87 g90.size
    refine sv n88.ok rfl (wn _ rfl) rfl (o_mv n88.at_) (fun an95 n95 => ?_)
    refine sv n95.ok rfl (wn _ rfl) rfl (o_ex n95.at_ rfl) (fun an96 n96 => ?_)
    refine sv n96.ok rfl (wn _ rfl) rfl (o_ex (n96.ne rfl n95.at_) rfl) (fun an97 n97 => ?_)
    refine sal (cs := #[.slice none 0 0, .slice none 0 0]) n97.ok rfl (wn _ rfl) rfl (o_al (z := .agg #[.slice none 0 0, .slice none 0 0]) (by kernel_rfl)) (fun an98 w100 b99 W101 n98 => ?_)
    have l102 : b3 < b99 := by rw [W101.eq]; exact B92.lt
    have l103 : b10 < b99 := by rw [W101.eq]; exact B93.lt
    have l104 : w.heap.size ≤ b99 := by rw [W101.eq]; exact G91.size
    have l105 : ∀ k, Value.ownBlock (.slice vaf ((formV (setD L)).length) vcf) = some k → k < b99 := fun k e => by rw [W101.eq]; exact ow_in oV k e
    have l106 : ∀ k, Value.ownBlock (.slice maf ((formM (setD L)).length) mcf) = some k → k < b99 := fun k e => by rw [W101.eq]; exact ow_in oM k e
    have G107 := G91.trans W101.gr
    have B108 := B92.gr W101.gr
    have B109 := B93.gr W101.gr
    have z110 := Nat.le_trans z94 W101.gr.size
    have O111 := ow_gr oV W101.gr
    have O112 := ow_gr oM W101.gr
    refine ssR rfl (wn _ rfl) (o_stR n98.at_ (n98.ne rfl (n97.ne rfl n96.at_)) W101.bk (by kernel_rfl) rfl (by simp [Value.oneCell'])) W101.bk (fun w113 u114 u114b => ?_)
    have G115 : Gr w w113 := Below.upd G107 l104 u114
    have B116 := B108.upd u114 (Nat.ne_of_lt l102)
    have B117 := B109.upd u114 (Nat.ne_of_lt l103)
    have z118 : h1 ≤ w113.heap.size := by rw [u114.size]; exact z110
    have O119 := ow_upd_ne O111 u114 l105
    have O120 := ow_upd_ne O112 u114 l106
    refine sv n98.ok rfl (wn _ rfl) rfl (o_as (n98.ne rfl n97.at_)) (fun an121 n121 => ?_)
    refine wpList_nil ?_
    refine th_n (hK81 _ _ ?_)
    refine wp_seq_k (fun K122 hK122 => ?_)
    refine wp_region_lit ?_
    refine sv n121.ok rfl (wn _ rfl) rfl (o_ldR (n121.ne rfl n98.at_) u114b Try.underlying35 rfl (by kernel_rfl)) (fun an123 n123 => ?_)
    have e124 := n123.ne rfl (n121.ne rfl (n98.ne rfl (n97.ne rfl (n96.ne rfl (n95.ne rfl (n88.ne rfl (n82.ne rfl (n35.ne rfl s2I28))))))))
    refine ssR rfl (wn _ rfl) (o_stR e124 n123.at_ B116 (by kernel_rfl) rfl (by simp [Value.oneCell'])) B116 (fun w125 u126 u126b => ?_)
    have G127 : Gr w w125 := Below.upd G115 l6 u126
    have B128 := B117.upd u126 (Nat.ne_of_gt l13)
    have B129 := u114b.upd u126 (Nat.ne_of_gt l102)
    have z130 : h1 ≤ w125.heap.size := by rw [u126.size]; exact z118
    have O131 := ow_upd O119 u126 l84
    have O132 := ow_upd O120 u126 l84
    refine wpList_nil ?_
    refine th_n (hK122 _ _ ?_)
    refine wp_ret ?_
    exact ret1 n123.ok rfl (⟨_, _, e124, ld_row u126b Try.underlying35 rfl (by kernel_rfl)⟩) ⟨_, rfl, ⟨_, _, rfl, own_less O131 l86, own_less O132 l86⟩, G127⟩
theorem kset_any (v : Value) (L : List (List Int)) (w : World) (h : RdLL w v L) : Calls Try.prog 55 #[v] w fun e w' => ∃ k, e = .returned k ∧ KnO w.heap.size w' k (formV (setD L)) (formM (setD L)) ∧ Gr w w' := by
  obtain ⟨a, c, rfl, hc, h⟩ := h
  exact set_k a c L hc w h
end Go.Proofs.Ytghjfakellaecaa
