/- Joined: ShQ, ShR, ShS, ShT, ShU, SiA, GxM, SiB, SiC, GxL, SiD, SiE, SiG. -/
import Derived.Test.YtglbnggkkjhokaaGreatSb4
import Derived.Laws.AppendOwnNone
set_option linter.unusedVariables false
set_option linter.unusedSimpArgs false
set_option maxHeartbeats 8000000
set_option maxRecDepth 100000
/- Dots added in order: the dots behind the vector only grow. -/
namespace Rm
open Go Go.RowKit
theorem runTo_mono {D E : DS} {s : Nat} (h : ∀ c, D s c = true → E s c = true) : ∀ n, runTo D s n ≤ runTo E s n
 | 0 => Nat.le_refl _
 | n + 1 => by
  have ih := runTo_mono h n
  have h1 := runTo_le E s n
  unfold runTo
  split
  ·rename_i q
   rw [if_pos ⟨by omega, h _ q.2⟩]
   exact Nat.le_refl _
  ·split
   ·have := runTo_le D s n; omega
   ·exact ih
theorem run_mono {D E : DS} {s : Nat} (h : ∀ c, D s c = true → E s c = true) : run D s ≤ run E s := runTo_mono h 1000
theorem run_all {D : DS} {s c : Nat} (h1 : 1 ≤ c) (h2 : c ≤ run D s) : D s c = true := runTo_all D s 1000 c h1 h2
theorem run_gap {D : DS} {s : Nat} (h : run D s < 1000) : D s (run D s + 1) = false := runTo_gap D s 1000 h
theorem run_lt {D : DS} {s c : Nat} (h1 : 1 ≤ c) (h : D s c = false) : run D s < c := by
  rcases Nat.lt_or_ge (run D s) c with q | q
  · exact q
  · rw [run_all h1 q] at h; cases h
theorem filter_le {α : Type} {p q : α → Bool} (h : ∀ x, p x = true → q x = true) : ∀ l : List α, (l.filter p).length ≤ (l.filter q).length
 | [] => Nat.le_refl _
 | a :: l => by
  have ih := filter_le h l
  rw [List.filter_cons, List.filter_cons]
  by_cases hp : p a = true
  ·rw [if_pos hp, if_pos (h a hp)]; simpa using ih
  ·rw [if_neg hp]
   split
   ·simp only [List.length_cons]; omega
   ·exact ih
theorem flatMap_le {α β : Type} {f g : α → List β} : ∀ l : List α, (∀ x ∈ l, (f x).length ≤ (g x).length) → (l.flatMap f).length ≤ (l.flatMap g).length
 | [], _ => Nat.le_refl _
 | a :: l, h => by
  rw [List.flatMap_cons, List.flatMap_cons, List.length_append, List.length_append]
  have := h a (List.mem_cons_self ..)
  have := flatMap_le l fun x hx => h x (List.mem_cons_of_mem _ hx)
  omega
theorem mem_formM (D : DS) (d : Nat × Nat) : d ∈ formM D ↔ d.1 < 5 ∧ d.2 ≤ 1000 ∧ run D d.1 + 2 ≤ d.2 ∧ D d.1 d.2 = true := by
 unfold formM
 rw [List.mem_flatMap]
 constructor
 ·rintro ⟨s, hs, h⟩
  obtain ⟨h1, h2, h3, h4⟩ := (mem_restD D s d).1 h
  rw [List.mem_range] at hs
  subst h1
  exact ⟨hs, h2, h3, h4⟩
 ·rintro ⟨h1, h2, h3, h4⟩
  exact ⟨d.1, List.mem_range.2 h1, (mem_restD D d.1 d).2 ⟨rfl, h2, h3, h4⟩⟩
theorem formM_add {D : DS} {a b : Nat} (hd : inR a b) (h : ∀ x ∈ formM D, ltD x (a, b)) : (formM D).length ≤ (formM (addD D a b)).length := by
  refine flatMap_le _ fun s hs => ?_
  have hs5 := List.mem_range.1 hs
  unfold restD
  rw [List.length_map, List.length_map]
  by_cases hsa : s = a
  · subst hsa
    by_cases hb : b = run D s + 1
    · -- nothing lies behind the vector there
      have h0 : ((List.range 1001).filter fun c => decide (run D s + 2 ≤ c) && D s c) = [] := by
        rw [List.filter_eq_nil_iff]
        intro c hc q
        rw [Bool.and_eq_true, decide_eq_true_eq] at q
        rw [List.mem_range] at hc
        have := h (s, c) ((mem_formM D (s, c)).2 ⟨hs5, by simp only; omega, q.1, q.2⟩)
        unfold ltD at this
        simp only at this
        omega
      rw [h0]
      exact Nat.zero_le _
    · have hr : run (addD D s b) s = run D s := by
        apply Nat.le_antisymm
        · rcases Nat.lt_or_ge (run D s) 1000 with q | q
          · have g := run_gap q
            have g2 : addD D s b s (run D s + 1) = false := by
              unfold addD
              rw [g, Bool.false_or, decide_eq_false_iff_not]
              omega
            have := run_lt (by omega) g2
            omega
          · have := run_le (addD D s b) s
            have := run_le D s
            omega
        · exact run_mono fun c hc => by unfold addD; rw [hc]; rfl
      refine filter_le (fun c hc => ?_) _
      rw [Bool.and_eq_true] at hc ⊢
      rw [hr]
      exact ⟨hc.1, by unfold addD; rw [hc.2]; rfl⟩
  · have he : ∀ c, addD D a b s c = D s c := fun c => by
      unfold addD
      rw [decide_eq_false (fun q => hsa q.1), Bool.or_false]
    have hr : run (addD D a b) s = run D s := Nat.le_antisymm (run_mono fun c hc => by rw [← he c]; exact hc) (run_mono fun c hc => by rw [he c]; exact hc)
    refine filter_le (fun c hc => ?_) _
    rw [Bool.and_eq_true] at hc ⊢
    rw [hr, he c]
    exact hc
def addS (D : DS) (L : List (Nat × Nat)) : DS := fun s c => D s c || decide ((s, c) ∈ L)
theorem addS_nil (D : DS) : addS D [] = D := by
 funext s c
 simp [addS]
theorem addS_snoc (D : DS) (L : List (Nat × Nat)) (a b : Nat) : addD (addS D L) a b = addS D (L ++ [(a, b)]) := by
 funext s c
 unfold addD addS
 rw [Bool.eq_iff_iff]
 simp only [Bool.or_eq_true, decide_eq_true_eq, List.mem_append, List.mem_singleton, Prod.mk.injEq, or_assoc]
theorem addS_congr (D : DS) {L L' : List (Nat × Nat)} (h : ∀ x, x ∈ L ↔ x ∈ L') : addS D L = addS D L' := by
 funext s c
 unfold addS
 rw [Bool.eq_iff_iff]
 simp only [Bool.or_eq_true, decide_eq_true_eq, h]
def Pure (D : DS) : Prop := ∀ s c, inR s c → D s c = true → c ≤ run D s
theorem addS_lt {D : DS} {L : List (Nat × Nat)} {i : Nat} {d : Nat × Nat} (hD : Pure D) (hL : L.Pairwise ltD) (hd : L[i]? = some d) : ∀ x ∈ formM (addS D (L.take i)), ltD x d := fun x hx => by
 obtain ⟨h1, h2, h3, h4⟩ := (mem_formM _ x).1 hx
 unfold addS at h4
 rw [Bool.or_eq_true, decide_eq_true_eq] at h4
 rcases h4 with h4 | h4
 ·have h5 := hD x.1 x.2 ⟨h1, by omega, h2⟩ h4
  have h6 : run D x.1 ≤ run (addS D (L.take i)) x.1 := run_mono fun c hc => by unfold addS; rw [hc]; rfl
  omega
 ·obtain ⟨j, hj⟩ := List.getElem?_of_mem h4
  have hl := (List.getElem?_eq_some_iff.1 hj).1
  rw [List.length_take] at hl
  rw [List.getElem?_take_of_lt (by omega)] at hj
  obtain ⟨p1, e1⟩ := List.getElem?_eq_some_iff.1 hj
  obtain ⟨p2, e2⟩ := List.getElem?_eq_some_iff.1 hd
  have := List.pairwise_iff_getElem.1 hL j i p1 p2 (by omega)
  rw [e1, e2] at this
  exact this
theorem take_snocD {L : List (Nat × Nat)} {i : Nat} {d : Nat × Nat} (hd : L[i]? = some d) : L.take (i + 1) = L.take i ++ [d] := by
 rw [List.take_add_one, hd]
 rfl
theorem addS_step {D : DS} {L : List (Nat × Nat)} {i : Nat} {d : Nat × Nat} (hd : L[i]? = some d) : addD (addS D (L.take i)) d.1 d.2 = addS D (L.take (i + 1)) := by
 rw [addS_snoc, take_snocD hd]
theorem addS_le {D : DS} {L : List (Nat × Nat)} (hD : Pure D) (hL : L.Pairwise ltD) (hR : ∀ d ∈ L, inR d.1 d.2) : ∀ n i, i + n = L.length → (formM (addS D (L.take i))).length ≤ (formM (addS D L)).length
 | 0, i, h => by rw [List.take_of_length_le (by omega)]; exact Nat.le_refl _
 | n + 1, i, h => by
  obtain ⟨d, hd⟩ : ∃ d, L[i]? = some d := ⟨_, List.getElem?_eq_getElem (by omega)⟩
  have h1 := formM_add (hR d (List.mem_of_getElem? hd)) (addS_lt hD hL hd)
  rw [addS_step hd] at h1
  exact Nat.le_trans h1 (addS_le hD hL hR n (i + 1) (by omega))
theorem Pure.formM {D : DS} (h : Pure D) : formM D = [] := by
 apply List.eq_nil_iff_forall_not_mem.2
 intro x hx
 obtain ⟨h1, h2, h3, h4⟩ := (mem_formM D x).1 hx
 have := h x.1 x.2 ⟨h1, by omega, h2⟩ h4
 omega
theorem pure_of {D : DS} (h : ∀ s c, inR s (c + 1) → 1 ≤ c → D s (c + 1) = true → D s c = true) : Pure D := fun s c hi hc => by
  rcases Nat.lt_or_ge (run D s) c with q | q
  · exfalso
    have hg := run_gap (show run D s < 1000 by have := hi.2.2; omega)
    have key : ∀ k, k ≤ c - (run D s + 1) → D s (c - k) = true := by
      intro k
      induction k with
      | zero => intro _; exact hc
      | succ k ih =>
        intro hk
        have h1 := ih (by omega)
        have h2 := hi.1
        have h3 := hi.2.2
        refine h s (c - (k + 1)) ⟨h2, by omega, by omega⟩ (by omega) ?_
        rw [show c - (k + 1) + 1 = c - k by omega]
        exact h1
    have := key (c - (run D s + 1)) (Nat.le_refl _)
    rw [show c - (c - (run D s + 1)) = run D s + 1 by omega, hg] at this
    cases this
  · exact q
theorem Pure.down {D : DS} (h : Pure D) {s c : Nat} (hi : inR s (c + 1)) (hc : 1 ≤ c) (hd : D s (c + 1) = true) : D s c = true := run_all hc (by have := h s (c + 1) hi hd; omega)
theorem Pure.or {D E : DS} (h : Pure D) (k : Pure E) : Pure (orD D E) := pure_of fun s c hi hc hd => by
 unfold orD at hd ⊢
 rw [Bool.or_eq_true] at hd ⊢
 rcases hd with hd | hd
 ·exact .inl (h.down hi hc hd)
 ·exact .inr (k.down hi hc hd)
theorem pure_vec (v : List Nat) : Pure (memB v []) := pure_of fun s c hi hc hd => by
 rw [memB_iff] at hd ⊢
 rcases hd with hd | hd
 ·exact .inl ⟨hc, by omega⟩
 ·cases hd
open Go Go.RowKit Gx
theorem encD_ok : EncOk encD 2 := ⟨fun x => rfl, fun x u hu => by
 simp [encD] at hu
 rcases hu with rfl | rfl <;> rfl⟩
theorem flat_encD (l : List (Nat × Nat)) : flat (pairs l) = flatE encD l := by
 unfold flat pairs flatE
 rw [List.flatMap_map]
 rfl
theorem ddT_memL {L L1 : List (Nat × Nat)} (h : L1.Perm L) (x : Nat × Nat) : x ∈ ddT L1 L1.length ↔ x ∈ L := by
 rw [ddT_mem (Nat.le_refl _), ← h.mem_iff]
 constructor
 ·rintro ⟨j, -, hj⟩; exact List.mem_of_getElem? hj
 ·intro hx
  obtain ⟨j, hj⟩ := List.getElem?_of_mem hx
  exact ⟨j, (List.getElem?_eq_some_iff.1 hj).1, hj⟩
end Rm
namespace Go.Proofs.YtglbnggkkjhokaaGreat
open Go.RowKit Rm Gx
def NoM (mv : Value) : Prop := ∀ w : World, Rd2 w mv [] ∧ RdC 2 w mv 0 []
theorem noM_of {w : World} {vv mv : Value} {V : List Int} (h : KnR w (.agg #[vv, mv]) V []) : NoM mv := fun w' => by
 obtain ⟨a, b, e, -, h2, h3⟩ := h
 have e2 : mv = b := by
  injection e with e
  have e := congrArg Array.toList e
  simpa using (List.cons.inj (List.cons.inj e).2).1
 obtain rfl := e2.symm
 obtain ⟨ad, c, rfl, hc, -⟩ := h2
 refine ⟨⟨ad, c, rfl, hc, fun q => absurd rfl q⟩, rfl, (fun u hu => by cases hu), ?_⟩
 obtain ⟨-, -, h4 | ⟨ad', c', e', hc', -⟩⟩ := h3
 ·exact .inl h4
 ·exact .inr ⟨ad', c', e', hc', fun q => absurd rfl q, fun j u hj => by simp at hj⟩
theorem noM_nil : NoM (.slice none 0 0) := fun w' => ⟨⟨none, 0, rfl, Nat.le_refl _, fun q => absurd rfl q⟩, rfl, (fun u hu => by cases hu), .inl ⟨rfl, rfl⟩⟩
theorem knR_vecM {w : World} {base : Nat} {vv mv : Value} {v : List Nat} (h : w.ownsRow base 3 1 vv v.length (flatI v)) (hm : NoM mv) : KnR w (.agg #[vv, mv]) (ints v) [] := ⟨vv, mv, rfl, R1.own h, (hm w).1, (hm w).2⟩
def KnW (base : Nat) (w : World) (k : Value) (v : List Nat) (m : List (Nat × Nat)) : Prop :=
  ∃ vv mv, k = .agg #[vv, mv] ∧ w.ownsRow base 3 1 vv v.length (flatI v) ∧ (w.ownsRow base 51 2 mv m.length (flat (pairs m)) ∨ (m = [] ∧ NoM mv))
theorem KnW.of {base : Nat} {w : World} {k : Value} {v : List Nat} {m : List (Nat × Nat)} (h : KnO base w k v m) : KnW base w k v m := by
 obtain ⟨vv, mv, e, h1, h2⟩ := h
 exact ⟨vv, mv, e, h1, .inl h2⟩
theorem KnW.rd {base : Nat} {w : World} {k : Value} {v : List Nat} {m : List (Nat × Nat)} (h : KnW base w k v m) : KnR w k (ints v) (pairs m) := by
 obtain ⟨vv, mv, rfl, h1, h2 | ⟨rfl, h2⟩⟩ := h
 ·exact KnO.rd ⟨vv, mv, rfl, h1, h2⟩
 ·exact knR_vecM h1 h2
theorem KnW.gr {base : Nat} {w w' : World} {k : Value} {v : List Nat} {m : List (Nat × Nat)} (h : KnW base w k v m) (g : Gr w w') : KnW base w' k v m := by
 obtain ⟨vv, mv, e, h1, h2 | h2⟩ := h
 ·exact ⟨vv, mv, e, kown_gr h1 g, .inl (kown_gr h2 g)⟩
 ·exact ⟨vv, mv, e, kown_gr h1 g, .inr h2⟩
theorem KnW.tks {base : Nat} {w w' : World} {k : Value} {v : List Nat} {m : List (Nat × Nat)} (h : KnW base w k v m) (q : TkS w w') : KnW base w' k v m := by
 obtain ⟨vv, mv, e, h1, h2 | h2⟩ := h
 ·exact ⟨vv, mv, e, ow_tks h1 q (by decide), .inl (ow_tks h2 q (by decide))⟩
 ·exact ⟨vv, mv, e, ow_tks h1 q (by decide), .inr h2⟩
theorem KnW.vec {base : Nat} {w : World} {vv mv : Value} {v : List Nat} (h : w.ownsRow base 3 1 vv v.length (flatI v)) (hm : NoM mv) : KnW base w (.agg #[vv, mv]) v [] := ⟨vv, mv, rfl, h, .inr ⟨rfl, hm⟩⟩
theorem add_c (k : Value) (E : DS) (d : Nat × Nat) (base : Nat) (w : World) (hb : base ≤ w.heap.size) (hk : KnR w k (ints (formV E)) (pairs (formM E))) (hl : (formM E).length ≤ 60) (hd : inR d.1 d.2) :
    Calls Tryz.prog 186 #[k, .agg #[.int .i64 (d.1 : Int), .int .i64 (d.2 : Int)]] w fun e w' => ∃ va n vc ma m mc, e = .returned (.tuple #[.agg #[.slice va n vc, .slice ma m mc], .int .i64 (frE (addD E d.1 d.2))]) ∧ KnW base w' (.agg #[.slice va n vc, .slice ma m mc]) (frV (addD E d.1 d.2)) (frM (addD E d.1 d.2)) ∧ Gr w w' := by
  refine (add_ok k (formV E) (formM E) d.1 d.2 w hk (form_ok E) hl hd).mono ?_
  rintro e w' ⟨h, g⟩
  have he : EqD (addD (memB (formV E) (formM E)) d.1 d.2) (addD E d.1 d.2) := fun s c i => by
    unfold addD
    rw [form_mem E s c i]
  obtain ⟨k2, rfl, h2⟩ := (h.congr he).one
  have h3 := KnW.of (h2.less hb)
  obtain ⟨vv, mv, rfl, h4, h5⟩ := h2
  obtain ⟨a, c, rfl, -⟩ := ow_form h4
  obtain ⟨a', c', rfl, -⟩ := ow_form h5
  exact ⟨_, _, _, _, _, _, rfl, h3, g⟩
theorem frE_zero {D : DS} (h : frE D = 0) : (formM D).length ≤ 60 := by
 unfold frE at h
 split at h
 ·assumption
 ·cases h
theorem fr_small {D : DS} (h : frE D = 0) : frV D = formV D ∧ frM D = formM D := by
 have q := frE_zero h
 unfold frV frM
 rw [if_pos q, if_pos q]
 exact ⟨rfl, rfl⟩
theorem fr_of {D : DS} (h : (formM D).length ≤ 60) : frE D = 0 ∧ frV D = formV D ∧ frM D = formM D := by
 unfold frE frV frM
 rw [if_pos h, if_pos h, if_pos h]
 exact ⟨rfl, rfl, rfl⟩
theorem fr_over {D E : DS} (h : ¬ frE D = 0) (hl : (formM D).length ≤ (formM E).length) : frE D = 2 ∧ frE E = 2 ∧ frV E = [] ∧ frM E = [] := by
 have h1 : ¬ (formM D).length ≤ 60 := fun q => h (fr_of q).1
 have h2 : ¬ (formM E).length ≤ 60 := by omega
 unfold frE frV frM
 rw [if_neg h1, if_neg h2, if_neg h2, if_neg h2]
 exact ⟨rfl, rfl, rfl, rfl⟩
end Go.Proofs.YtglbnggkkjhokaaGreat
/- shelf.addAll. -/
namespace Go.Proofs.YtglbnggkkjhokaaGreat
open Go.RowKit Rm Gx
theorem addAll_any (D : DS) (L : List (Nat × Nat)) (ka kc ra : Option Addr) (kb kd rc base : Nat) (hD : Pure D) (hR : ∀ d ∈ L, inR d.1 d.2) (hl : L.length ≤ 10000) (hN : NoM (.slice kc 0 kd)) (w0 w : World) (hG : Gr w0 w) (hB : w0.heap.size ≤ base) (hz : base ≤ w.heap.size) (ho : w.ownsRow base 51 2 (.slice ra L.length rc) L.length (flat (pairs L))) (hv : w.ownsRow base 3 1 (.slice ka (formV D).length kb) (formV D).length (flatI (formV D))) :
  Calls Tryz.prog 134 #[.agg #[.slice ka ((formV D).length) kb, .slice kc 0 kd], .slice ra L.length rc] w fun e w' => ∃ k, e = .returned (.tuple #[k, .int .i64 (frE (addS D L))]) ∧ KnW base w' k (frV (addS D L)) (frM (addS D L)) ∧ w.grownBy w' (Value.ownBlock (.slice ra L.length rc)) := by
 refine enter (N := 30) Tryz.func134 rfl rfl rfl (fun a0 ok0 h0 => ?_)
 have aZ : a0.eval (.tmp 0) = .agg #[.slice ka ((formV D).length) kb, .slice kc 0 kd] := h0 0 _ rfl
 have a1 : a0.eval (.tmp 1) = .slice ra L.length rc := h0 1 _ rfl
 clear h0
 refine wp_seq_k (fun K1 a2 => (wp_region_lit (sal (cs := #[.slice ka ((formV D).length) kb, .slice kc 0 kd]) ok0 rfl (wn _ rfl) rfl (o_box aZ) (fun cK w4 K n n2 => ?_))))
 have l6 : w0.heap.size ≤ K := by rw [n.eq]; exact hG.size
 have l7 : ∀ k, Value.ownBlock (.slice ra L.length rc) = some k → k < K := fun k e => by rw [n.eq]; exact ow_in ho k e
 have l9 : w.heap.size ≤ K := by rw [n.eq]; exact (gb_self : w.grownBy w (Value.ownBlock (.slice ra L.length rc))).size
 have a7 := hG.trans n.gr
 have a8 := Nat.le_trans hz n.gr.size
 have aD := ow_gr ho n.gr
 have a9 := ow_gr hv n.gr
 have aE := gb_gr (gb_self : w.grownBy w (Value.ownBlock (.slice ra L.length rc))) n.gr
 refine sal (cs := #[.slice none 0 0, .slice none 0 0]) n2.ok rfl (wn _ rfl) rfl (o_al (z := .agg #[.slice none 0 0, .slice none 0 0]) (by kernel_rfl)) (fun cM ba U o ah => ?_)
 have bb : K < U := by rw [o.eq]; exact n.bk.lt
 have bc : ∀ k, Value.ownBlock (.slice ra L.length rc) = some k → k < U := fun k e => by rw [o.eq]; exact ow_in aD k e
 have aF : w.heap.size ≤ U := by rw [o.eq]; exact aE.size
 have bd := a7.trans o.gr
 have bf := n.bk.gr o.gr
 have bg := Nat.le_trans a8 o.gr.size
 have ar := ow_gr aD o.gr
 have bh := ow_gr a9 o.gr
 have bi := gb_gr aE o.gr
 refine sw ah.ok (o_as ev_const) (fun cO ad => ?_)
 refine wpList_nil (th_n (a2 _ _ (wp_seq_k (fun cS bj => (wp_region_lit ?_)))))
 have aG := ad.n (ah.n (n2.n a1))
 refine sw ad.ok (o_mv aG) (fun cT V => ?_)
 refine sc V.ok rfl (wn _ rfl) rfl (o_f2 Tryz.func183 rfl rfl rfl V.at_ ev_func) (sort_ownS L _ ba base hl ar) ?_
 rintro _ bl ⟨rfl, a, ai, hs1, ho1, W⟩
 refine ⟨_, rfl, fun cU af => ?_⟩
 have bm := Gr.grown bd W (fun k e => Nat.le_trans hB (ow_lt ar k e))
 have bn := bf.grown_ne W l7
 have bo := o.bk.grown_ne W bc
 have bp := Nat.le_trans bg W.size
 have bq := ow_grown bh ar W rfl
 have br := gb_gb bi W
 refine wpList_nil (th_n (bj _ _ (wp_seq_k (fun cV bt => (wp_seq_k (fun cW bu => (wp_region_lit (sw af.ok (o_mv (af.n (V.n aG))) (fun cX ag => ?_)))))))))
 refine sc ag.ok rfl (wn _ rfl) rfl (o_f1 Tryz.func185 rfl rfl rfl ag.at_) (compact_ownS a _ bl base (by rw [ai.length_eq]; exact hl) ho1) ?_
 rintro _ bv ⟨u2, rfl, hob2, ho2, X⟩
 obtain ⟨da, dc, rfl, -⟩ := ow_form ho2
 have hlD : (ddT a a.length).length ≤ L.length := Nat.le_trans (ddT_len _ _) (Nat.le_of_eq ai.length_eq)
 have hMs := ddT_sort hs1 (Nat.le_refl _)
 have hMR : ∀ d ∈ (ddT a a.length), inR d.1 d.2 := fun d hd => hR d ((ddT_memL ai d).1 hd)
 have hF : addS D L = addS D (ddT a a.length) := addS_congr D fun x => (ddT_memL ai x).symm
 refine ⟨_, rfl, fun cZ Y => ?_⟩
 have bx := Gr.grown bm X (fun k e => Nat.le_trans hB (ow_lt ho1 k e))
 have bz := bk_grownT bn ho1 X (by decide)
 have bA := bk_grownT bo ho1 X (by decide)
 have bB := Nat.le_trans bp X.size
 have bC := ow_grown bq ho1 X rfl
 have bD := gb_gb br X
 refine sw Y.ok (o_len Y.at_ Tryz.underlying73) (fun c0 Z => ?_)
 refine sw Z.ok (o_mv ev_const) (fun c1 M => ?_)
 refine wpList_nil (th_n (bu _ _ (wp_block ?_)))
 have hkn0 : KnW base bv (.agg #[.slice ka (formV D).length kb, .slice kc 0 kd]) (formV (addS D ((ddT a a.length).take 0))) (formM (addS D ((ddT a a.length).take 0))) := by rw [List.take_zero, addS_nil, hD.formM]; exact KnW.vec bC hN
 have bE := M.n (Z.n (Y.n (ag.n (af.n (V.n (ad.n (ah.n n2.at_)))))))
 have bF := M.n (Z.n (Y.n (ag.n (af.n (V.n (ad.n ah.at_))))))
 have bG := M.n (Z.n (Y.n (ag.n (af.n (V.n ad.at_)))))
 refine lp (fun (nL : Nat) (aL : Act) (wL : World) => ∃ i : Nat, ∃ ka : Option Addr, ∃ nV : Nat, ∃ kb : Nat, ∃ kc : Option Addr, ∃ nM : Nat, ∃ kd : Nat, nL = (ddT a a.length).length - i ∧ Ok 30 aL ∧ Gr w0 wL ∧ (aL.eval (.tmp 2) = .pointer (some ⟨K, 0, none⟩)) ∧ (aL.eval (.tmp 4) = .pointer (some ⟨U, 0, none⟩)) ∧ (aL.eval (.tmp 5) = .int .i64 0) ∧ (aL.eval (.tmp 12) = .slice da ((ddT a a.length).length) dc) ∧ (aL.eval (.tmp 13) = .int .i64 (((ddT a a.length).length : Nat) : Int)) ∧ (aL.eval (.tmp 14) = .int .i64 (i : Int)) ∧ (Bk wL K #[.slice ka nV kb, .slice kc nM kd] 75) ∧ (Bk wL U #[.slice none 0 0, .slice none 0 0] 75) ∧ (w.grownBy wL (Value.ownBlock (.slice ra L.length rc))) ∧ (KnW base wL (.agg #[.slice ka nV kb, .slice kc nM kd]) (formV (addS D ((ddT a a.length).take i))) (formM (addS D ((ddT a a.length).take i)))) ∧ (World.ownsRow wL base 51 2 (.slice da ((ddT a a.length).length) dc) ((ddT a a.length).length) ((flat (pairs (ddT a a.length))))) ∧ (base ≤ wL.heap.size) ∧ (i ≤ (ddT a a.length).length) ∧ ((formM (addS D ((ddT a a.length).take i))).length ≤ 60)) _ ⟨0, ka, (formV D).length, kb, kc, 0, kd, rfl, M.ok, bx, bE, bF, bG, (M.n (Z.n Y.at_)), (M.n Z.at_), M.at_, bz, bA, bD, hkn0, ho2, bB, by omega, by rw [List.take_zero, addS_nil, hD.formM]; exact Nat.zero_le _⟩ ?_
 rintro c2 c3 au ⟨i, ka, nV, kb, kc, nM, kd, hmI57, okI57, GI57, aH, aj, bH, aI, aJ, av, kb3I57, kb16I57, fgbI57, fknI57, odrI57, zbaseI57, hiI57, hEI57⟩ KI57 hKI57
 refine wp_seq_k (fun c4 bI => (wp_region_lit (sw okI57 (o_ltI av aJ) (fun c5 b => ?_))))
 refine wpList_nil (th_n (bI _ _ (wp_seq_k (fun c6 bJ => ?_))))
 by_cases aK : (i : Int) < (((ddT a a.length).length : Nat) : Int)
 ·refine wp_cond_true ((b.at_).trans (congrArg Value.bool (decide_eq_true aK))) ?_
  have aM := Gr.refl au
  refine wp_skip (th_n (bJ _ _ (wp_seq_k (fun c7 bK => (wp_block (wp_seq_k (fun c8 bL => (wp_region_lit ?_))))))))
  have ax : i < (ddT a a.length).length := by omega
  obtain ⟨bh72, fh72, bM, c9, bO⟩ := RdA.own encD_ok (by have h := odrI57; rw [flat_encD] at h; exact h) rfl (ne_nil_of_lt ax)
  obtain ⟨xh72, ay⟩ : ∃ x, (ddT a a.length)[i]? = some x := ⟨_, List.getElem?_eq_getElem ax⟩
  refine sw b.ok (o_iaV (i := i) (s := 2) bM (b.n aI) (b.n av) Tryz.underlying73 (by kernel_rfl) ax) (fun db F => ?_)
  refine sw F.ok (o_ldA (k := fh72 + i * 2) F.at_ (cs := [.int .i64 ((xh72.1 : Nat) : Int), .int .i64 ((xh72.2 : Nat) : Int)]) (fun j v hv => bO _ _ ay j v hv) Tryz.underlying51 rfl (by kernel_rfl)) (fun dd G => ?_)
  refine sal (cs := #[.int .i64 0, .int .i64 0]) G.ok rfl (wn _ rfl) rfl (o_al (z := .agg #[.int .i64 0, .int .i64 0]) (by kernel_rfl)) (fun df dg aa c l => ?_)
  have bS : K < aa := by rw [c.eq]; exact kb3I57.lt
  have bT : U < aa := by rw [c.eq]; exact kb16I57.lt
  have bU : w0.heap.size ≤ aa := by rw [c.eq]; exact GI57.size
  have bV : au.heap.size ≤ aa := by rw [c.eq]; exact aM.size
  have bW : ∀ k, Value.ownBlock (.slice da ((ddT a a.length).length) dc) = some k → k < aa := fun k e => by rw [c.eq]; exact ow_in odrI57 k e
  have bX : w.heap.size ≤ aa := by rw [c.eq]; exact fgbI57.size
  have bY := GI57.trans c.gr
  have bZ := kb3I57.gr c.gr
  have b0 := kb16I57.gr c.gr
  have b1 := aM.trans c.gr
  have b2 := Nat.le_trans zbaseI57 c.gr.size
  have b4 := ow_gr odrI57 c.gr
  have b5 := gb_gr fgbI57 c.gr
  refine ssR rfl (wn _ rfl) (o_stR l.at_ (l.n G.at_) c.bk (by kernel_rfl) rfl (by simp [Value.oneCell'])) c.bk (fun ak O b6 => ?_)
  have b7 : Gr w0 ak := Below.upd bY bU O
  have aO := bZ.upd O (Nat.ne_of_lt bS)
  have b8 := b0.upd O (Nat.ne_of_lt bT)
  have b9 : Gr au ak := Below.upd b1 bV O
  have aS : base ≤ ak.heap.size := by rw [O.size]; exact b2
  have ca := ow_upd_ne b4 O bW
  have cb := gb_upd b5 O bX
  refine wpList_nil (th_n (bL _ _ (wp_seq_k (fun dh cc => (wp_region_lit (sw l.ok (o_as ev_const) (fun di H => ?_)))))))
  refine wpList_nil (th_n (cc _ _ (wp_seq_k (fun dj cd => (wp_region_lit ?_)))))
  have aT := H.n (l.n (G.n (F.n (b.n aH))))
  refine sw H.ok (o_ldR aT aO Tryz.underlying75 rfl (by kernel_rfl)) (fun dk t => ?_)
  refine sw t.ok (o_ldR (t.n (H.n l.at_)) b6 Tryz.underlying51 rfl (by kernel_rfl)) (fun dl u => ?_)
  refine sc u.ok rfl (wn _ rfl) rfl (o_f2 Tryz.func186 rfl rfl rfl (u.n t.at_) u.at_) ((by have h := add_c (.agg #[.slice ka nV kb, .slice kc nM kd]) (addS D ((ddT a a.length).take i)) xh72 base ak aS ((fknI57).rd.gr b9) hEI57 (hMR _ (List.mem_of_getElem? ay)); rw [addS_step ay] at h; exact h)) ?_
  rintro _ dm ⟨ka2, nV2, kb2, kc2, nM2, kd2, rfl, hkn2, ab⟩
  refine ⟨_, rfl, fun dn I => ?_⟩
  have cf := b7.trans ab
  have al := aO.gr ab
  have cg := b8.gr ab
  have ch := Nat.le_trans aS ab.size
  have ci := ow_gr ca ab
  have cj := gb_gr cb ab
  refine sw I.ok (o_mv I.at_) (fun dp y => ?_)
  refine sw y.ok (o_ex y.at_ rfl) (fun dq A => ?_)
  refine sw A.ok (o_ex (A.n y.at_) rfl) (fun dr B => ?_)
  have aU := B.n (A.n (y.n (I.n (u.n (t.n aT)))))
  refine ssR rfl (wn _ rfl) (o_stR aU (B.n A.at_) al (by kernel_rfl) rfl (by simp [Value.oneCell'])) al (fun aV ac ck => ?_)
  have cl : Gr w0 aV := Below.upd cf l6 ac
  have az := cg.upd ac (Nat.ne_of_gt bb)
  have cm : base ≤ aV.heap.size := by rw [ac.size]; exact ch
  have cn := ow_updT ci ac al (by decide)
  have aW := gb_upd cj ac l9
  have co := KnW.tks hkn2 (tks_upd ac al (by decide))
  refine sw B.ok (o_as B.at_) (fun ds C => ?_)
  refine wpList_nil (th_n (cd _ _ (wp_seq_k (fun dt cp => (wp_region_lit (sw C.ok (o_mv C.at_) (fun du E => ?_)))))))
  refine sw E.ok (o_neI E.at_ ev_const) (fun dv g => ?_)
  refine wpList_nil (th_n (cp _ _ ?_))
  by_cases J : ¬ (frE (addS D ((ddT a a.length).take (i + 1)))) = 0
  ·refine wp_cond_true ((g.at_).trans (congrArg Value.bool (decide_eq_true J))) ?_
   refine wp_seq_k (fun dx cq => (wp_region_lit (sw g.ok (o_b0 (cs := #[.slice none 0 0, .slice none 0 0]) Tryz.underlying75 (by kernel_rfl) (by kernel_rfl)) (fun dy am => ?_))))
   have cr := am.n (g.n (E.n C.at_))
   refine sw am.ok (o_mv cr) (fun dz an => ?_)
   have aX := an.n (am.n (g.n (E.n (C.n (B.n (A.n (y.n (I.n (u.n (t.n (H.n (l.n (G.n (F.n (b.n aj)))))))))))))))
   refine ssR rfl (wn _ rfl) (o_stR aX (an.n am.at_) az (by kernel_rfl) rfl (by simp [Value.oneCell'])) az (fun dA ct cu => ?_)
   have cx := gb_upd aW ct aF
   refine sw an.ok (o_as an.at_) (fun dB aA => ?_)
   refine wpList_nil (th_n (cq _ _ (wp_ret (ib_r (th_r (th_r (ib_r (th_r (ret2 aA.ok rfl (⟨_, _, (aA.n aX), ld_row cu Tryz.underlying75 rfl (by kernel_rfl)⟩) (aA.at_) ⟨.agg #[.slice none 0 0, .slice none 0 0], by rw [hF, (fr_over J (addS_le hD hMs hMR ((ddT a a.length).length - (i + 1)) (i + 1) (by omega))).1, (fr_over J (addS_le hD hMs hMR ((ddT a a.length).length - (i + 1)) (i + 1) (by omega))).2.1] <;> rfl, by rw [hF, (fr_over J (addS_le hD hMs hMR ((ddT a a.length).length - (i + 1)) (i + 1) (by omega))).2.2.1, (fr_over J (addS_le hD hMs hMR ((ddT a a.length).length - (i + 1)) (i + 1) (by omega))).2.2.2]; exact KnW.vec (World.ownsRow_nil _ _ _ _) noM_nil, cx⟩)))))))))
  ·refine wp_cond_false ((g.at_).trans (congrArg Value.bool (decide_eq_false J))) ?_
   refine wp_skip (ib_n (th_n (bK _ _ (wp_region_lit ?_))))
   have cy := g.n (E.n (C.n (B.n (A.n (y.n (I.n (u.n (t.n (H.n (l.n (G.n (F.n (b.n av)))))))))))))
   refine sw g.ok (o_add (r := ((i + 1 : Nat) : Int)) cy ev_const (by omega) (by omega)) (fun dC S => ?_)
   refine sw S.ok (o_mv S.at_) (fun dD T => ?_)
   refine wpList_nil ?_
   have cz := T.n (S.n (g.n (E.n (C.n aU))))
   have cA := T.n (S.n (g.n (E.n (C.n (B.n (A.n (y.n (I.n (u.n (t.n (H.n (l.n (G.n (F.n (b.n aj)))))))))))))))
   have cB := T.n (S.n (g.n (E.n (C.n (B.n (A.n (y.n (I.n (u.n (t.n (H.n (l.n (G.n (F.n (b.n bH)))))))))))))))
   have cC := T.n (S.n (g.n (E.n (C.n (B.n (A.n (y.n (I.n (u.n (t.n (H.n (l.n (G.n (F.n (b.n aI)))))))))))))))
   have cD := T.n (S.n (g.n (E.n (C.n (B.n (A.n (y.n (I.n (u.n (t.n (H.n (l.n (G.n (F.n (b.n aJ)))))))))))))))
   exact th_n (hKI57 _ _ _ (by omega) ⟨i + 1, ka2, nV2, kb2, kc2, nM2, kd2, rfl, T.ok, cl, cz, cA, cB, cC, cD, T.at_, ck, az, aW, (by have h := co; rw [(fr_small (Decidable.of_not_not J)).1, (fr_small (Decidable.of_not_not J)).2] at h; exact h), cn, cm, by omega, frE_zero (Decidable.of_not_not J)⟩)
 ·refine wp_cond_false ((b.at_).trans (congrArg Value.bool (decide_eq_false aK))) ?_
  refine wp_exit (th_x (th_x (ib_x (th_n (bt _ _ (wp_seq_k (fun dE cE => (wp_region_lit (sw b.ok (o_ldR (b.n aH) kb3I57 Tryz.underlying75 rfl (by kernel_rfl)) (fun dF ao => ?_))))))))))
  refine ssR rfl (wn _ rfl) (o_stR (ao.n (b.n aj)) ao.at_ kb16I57 (by kernel_rfl) rfl (by simp [Value.oneCell'])) kb16I57 (fun dG aY cF => ?_)
  have cG := gb_upd fgbI57 aY aF
  have cH := KnW.tks fknI57 (tks_upd aY kb16I57 (by decide))
  refine sw ao.ok (o_as ev_const) (fun dH aB => ?_)
  refine wpList_nil (th_n (cE _ _ (wp_ret ?_)))
  have cI := aB.n (ao.n (b.n aj))
  exact ret2 aB.ok rfl (⟨_, _, cI, ld_row cF Tryz.underlying75 rfl (by kernel_rfl)⟩) (aB.at_) ⟨_, by rw [hF, (fr_of (by have h := hEI57; rw [List.take_of_length_le (by omega)] at h; exact h)).1], by have h := cH; have q := hEI57; rw [List.take_of_length_le (by omega)] at h q; rw [hF, (fr_of q).2.1, (fr_of q).2.2]; exact h, cG⟩
end Go.Proofs.YtglbnggkkjhokaaGreat
/- What is past of a thing, version by version; an operation of a row in a region that draws its order. -/
namespace Gx
open Go Go.RowKit Rm
section
variable {P : Program} {ops : Array Oper} {Q : Exit → Act → World → Prop} {N : Nat} {S : World → Prop}
def SxB (b : Nat) (cs : Array Value) (t : TypeId) (x : World) : Prop := Bk x b cs t
theorem h_startB {id : Nat} {a : Act} {w : World} (b : Nat) (cs : Array Value) (t : TypeId) (n : Nat) (L : Array Bool) (hf : P.follows .mixedOrders = true) (hn : ops.size = n) (hL : Array.replicate ops.size false = L)
  (h : wpAnyH P .any ops Q (SxB b cs t) n L a w.drew) : (Code.region id ops true).wp P Q a w := by
 subst hn hL
 exact wp_region_held hf h
theorem h_one {i : Nat} {o : Oper} {fuel : Nat} {L : Array Bool} {a : Act} {w : World} (hr : Region.ready .any ops L = [i]) (ho : ops[i]? = some o) (hw : Region.wanted o (yielded ops a.tmps) = true)
  (h : o.wp P a w (fun a' w' => S w' ∧ wpAnyH P .any ops Q S fuel (L.setIfInBounds i true) a' w') Q) : wpAnyH P .any ops Q S (fuel + 1) L a w := by
 refine wpAnyH_all hr (by simp) fun j hj => ?_
 obtain rfl : j = i := by simpa using hj
 unfold wpOp
 rw [ho]
 simp only [hw, if_true]
 exact .inl h
theorem h_val {i : Nat} {o : Oper} {fuel : Nat} {L : Array Bool} {a : Act} {w w' : World} {d : Nat} {v : Value} (hr : Region.ready .any ops L = [i]) (ho : ops[i]? = some o) (ok : Ok N a) (hd : o.dst = some d) (hw : Region.wanted o (yielded ops a.tmps) = true) (hN : Nat.blt d N = true)
  (hrun : (execOp a.eval o).run P w = .ok (.value v) w') (hS : S w') (h : ∀ a', Nx N a a' d v → wpAnyH P .any ops Q S fuel (L.setIfInBounds i true) a' w') : wpAnyH P .any ops Q S (fuel + 1) L a w := by
 refine h_one hr ho hw ?_
 unfold Oper.wp
 rw [hrun]
 show S w' ∧ wpAnyH P .any ops Q S fuel (L.setIfInBounds i true) (a.put o.dst v) w'
 rw [hd]
 exact ⟨hS, h _ (Nx.put ok hN v)⟩
theorem h_sals {i : Nat} {o : Oper} {fuel : Nat} {L : Array Bool} {a : Act} {w : World} {d n c : Nat} {cs : Array Value} {t : TypeId} (hr : Region.ready .any ops L = [i]) (ho : ops[i]? = some o) (ok : Ok N a) (hd : o.dst = some d) (hw : Region.wanted o (yielded ops a.tmps) = true) (hN : Nat.blt d N = true)
  (hrun : (execOp a.eval o).run P w = .ok (.value (.slice (some ⟨w.heap.size, 0, none⟩) n c)) (w.alloc (.cells cs t))) (hS : ∀ w', Gr w w' → S w')
  (h : ∀ a' w' b, New w w' b cs t → Nx N a a' d (.slice (some ⟨b, 0, none⟩) n c) → wpAnyH P .any ops Q S fuel (L.setIfInBounds i true) a' w') : wpAnyH P .any ops Q S (fuel + 1) L a w :=
 h_val hr ho ok hd hw hN hrun (hS _ (New.mk' w cs t).gr) fun a' n => h a' _ _ (New.mk' w cs t) n
theorem h_app {i fuel : Nat} {L : Array Bool} {a : Act} {w : World} {dd : Nat} {s x : Operand} {t ty : TypeId} {p : String} {af : Array Edge} {g : Option (Nat × Bool)} {base : Nat} {e : TypeId} {ti : TypeInfo} {z : Value} {size bytes : Nat}
  (hr : Region.ready .any ops L = [i]) (ho : ops[i]? = some (Oper.mk (some dd) (.call { callee := .builtin .append, args := #[s, x], argTypes := #[t, t] }) ty p af g)) (ok : Ok N a)
  (hw : Region.wanted (Oper.mk (some dd) (.call { callee := .builtin .append, args := #[s, x], argTypes := #[t, t] }) ty p af g) (yielded ops a.tmps) = true) (hN : Nat.blt dd N = true)
  (ht : P.underlying t = some (.slice e)) (hi : P.info? e = some ti) (hz : ti.zero = some z) (hsize : ti.size = size) (hby : ti.bytes = bytes) (hzs : z.cells.size = size) (hsz : 0 < size)
  {v : Value} {n : Nat} {xs : List Value} (hs : a.eval s = v) (hown : w.ownsRow base e size v n xs)
  {ad : Addr} {m c : Nat} {news : List Value} (hx : a.eval x = .slice (some ad) m c) (hl : news.length = m * size) (hnews : ∀ j u, news[j]? = some u → w.cell? (ad.add j) = some u) (h1 : ∀ u ∈ news, u.oneCell' = true)
  (h63 : n + m ≤ maxLen) (hbytes : (n + m) * bytes ≤ 140737488355328) (hbase : base ≤ w.heap.size) (hS : ∀ w', w.grownBy w' v.ownBlock → S w')
  (h : ∀ a' w' v', w'.ownsRow base e size v' (n + m) (xs ++ news) → w.grownBy w' v.ownBlock → Nx N a a' dd v' → wpAnyH P .any ops Q S fuel (L.setIfInBounds i true) a' w') : wpAnyH P .any ops Q S (fuel + 1) L a w := by
 refine h_one hr ho hw ?_
 exact wp_append_own w s x t rfl base e ti z size bytes ht hi hz hsize hby hzs hsz v n xs hs hown ad m c news hx hl hnews h1 h63 hbytes hbase fun v' w' h2 h3 _ => ⟨hS _ h3, h _ w' v' h2 h3 (Nx.put ok hN v')⟩
theorem h_appR {i fuel : Nat} {L : Array Bool} {a : Act} {w : World} {dd : Nat} {s x : Operand} {t ty : TypeId} {p : String} {af : Array Edge} {g : Option (Nat × Bool)} {base : Nat} {e : TypeId} {ti : TypeInfo} {z : Value} {size bytes : Nat}
    (hr : Region.ready .any ops L = [i]) (ho : ops[i]? = some (Oper.mk (some dd) (.call { callee := .builtin .append, args := #[s, x], argTypes := #[t, t] }) ty p af g)) (ok : Ok N a)
    (hw : Region.wanted (Oper.mk (some dd) (.call { callee := .builtin .append, args := #[s, x], argTypes := #[t, t] }) ty p af g) (yielded ops a.tmps) = true) (hg : g = none) (hN : Nat.blt dd N = true)
    (ht : P.underlying t = some (.slice e)) (hi : P.info? e = some ti) (hz : ti.zero = some z) (hsize : ti.size = size) (hby : ti.bytes = bytes) (hzs : z.cells.size = size) (hsz : 0 < size)
    {v : Value} {n : Nat} {xs : List Value} (hs : a.eval s = v) (hown : w.ownsRow base e size v n xs)
    {u : Value} {m : Nat} {news : List Value} (hx : a.eval x = u) (hn : RdC size w u m news)
    (h63 : n + m ≤ maxLen) (hbytes : (n + m) * bytes ≤ 140737488355328) (hbase : base ≤ w.heap.size) (hS0 : S w) (hS : ∀ w', w.grownBy w' v.ownBlock → S w')
    (h : ∀ a' w' v', w'.ownsRow base e size v' (n + m) (xs ++ news) → w.grownBy w' v.ownBlock → Nx N a a' dd v' → wpAnyH P .any ops Q S fuel (L.setIfInBounds i true) a' w') : wpAnyH P .any ops Q S (fuel + 1) L a w := by
  obtain ⟨hl, h1, ⟨rfl, rfl⟩ | ⟨ad, c, rfl, hc, hb, hnews⟩⟩ := hn
  · obtain rfl : news = [] := List.eq_nil_of_length_eq_zero (by simpa using hl)
    refine wpAnyH_all hr (by simp) fun j hj => ?_
    obtain rfl : j = i := by simpa using hj
    unfold wpOp
    rw [ho]
    simp only [hw, if_true]
    refine .inl ?_
    have hrun := run_append_owned_none (P := P) (w := w) base t ty e ti size ht hi v n xs hown
    unfold Oper.wp
    simp [execOp, resolve, invoke, builtin, hs, hx, hrun, Result.andThen]
    refine ⟨hS0, ?_⟩
    exact h _ w v (by simpa using hown) (gb_self) (Nx.put ok hN v)
  · exact h_app hr ho ok hw hN ht hi hz hsize hby hzs hsz hs hown hx hl hnews h1 h63 hbytes hbase hS h
end
end Gx
namespace Rm
open Go Go.RowKit Gx
def vD (x : VerD) : DS := memB (x.V.map Int.toNat) []
def ndI (x : VerD) : List (Int × Int) := (x.s, x.c) :: x.M
def pF (L : List VerD) (id : List UInt8) : List VerD := L.filter fun x => decide (x.id = id)
def pV (L : List VerD) (id : List UInt8) : DS := fun s c => (pF L id).any fun x => vD x s c
def pI (L : List VerD) (id : List UInt8) : List (Int × Int) := (pF L id).flatMap ndI
def toN (l : List (Int × Int)) : List (Nat × Nat) := l.map fun d => (d.1.toNat, d.2.toNat)
def pD (L : List VerD) (id : List UInt8) : DS := addS (pV L id) (toN (pI L id))
theorem pF_step {L : List VerD} {i : Nat} {x : VerD} {id : List UInt8} (h : L[i]? = some x) (hid : x.id = id) : pF (L.take (i + 1)) id = pF (L.take i) id ++ [x] := by
 unfold pF
 rw [List.take_add_one, h, List.filter_append]
 simp [hid]
theorem pF_skip {L : List VerD} {i : Nat} {x : VerD} {id : List UInt8} (h : L[i]? = some x) (hid : ¬ x.id = id) : pF (L.take (i + 1)) id = pF (L.take i) id := by
 unfold pF
 rw [List.take_add_one, h, List.filter_append]
 simp [hid]
theorem pV_step {L : List VerD} {i : Nat} {x : VerD} {id : List UInt8} (h : L[i]? = some x) (hid : x.id = id) : pV (L.take (i + 1)) id = orD (pV (L.take i) id) (vD x) := by
 funext s c
 unfold pV orD
 rw [pF_step h hid, List.any_append]
 simp
theorem pV_skip {L : List VerD} {i : Nat} {x : VerD} {id : List UInt8} (h : L[i]? = some x) (hid : ¬ x.id = id) : pV (L.take (i + 1)) id = pV (L.take i) id := by
 unfold pV
 rw [pF_skip h hid]
theorem pI_step {L : List VerD} {i : Nat} {x : VerD} {id : List UInt8} (h : L[i]? = some x) (hid : x.id = id) : pI (L.take (i + 1)) id = pI (L.take i) id ++ ndI x := by
 unfold pI
 rw [pF_step h hid, List.flatMap_append]
 simp
theorem pI_skip {L : List VerD} {i : Nat} {x : VerD} {id : List UInt8} (h : L[i]? = some x) (hid : ¬ x.id = id) : pI (L.take (i + 1)) id = pI (L.take i) id := by
 unfold pI
 rw [pF_skip h hid]
theorem pV_pure (L : List VerD) (id : List UInt8) : Pure (pV L id) := pure_of fun s c hi hc hd => by
 unfold pV at hd ⊢
 rw [List.any_eq_true] at hd ⊢
 obtain ⟨x, hx, h⟩ := hd
 exact ⟨x, hx, (pure_vec _).down hi hc h⟩
theorem pV_nil (L : List VerD) (id : List UInt8) : formV (pV (L.take 0) id) = [] := by
 have ok0 : OkV [] [] := ⟨by simp, by simp, by simp, by simp, by simp⟩
 refine (ok0.form (D := pV (L.take 0) id) fun s c i => ?_).1
 rw [List.take_zero]
 have : ¬ ((1 ≤ c ∧ c ≤ cv [] s) ∨ (s, c) ∈ ([] : List (Nat × Nat))) := by
  rintro (h | h)
  ·simp [cv] at h; omega
  ·cases h
 rw [← memB_iff, Bool.not_eq_true] at this
 rw [this]
 rfl
theorem pairs_toN {l : List (Int × Int)} (h : ∀ d ∈ l, dotB d = true) : pairs (toN l) = l := by
 unfold pairs toN
 rw [List.map_map]
 conv => rhs; rw [← List.map_id l]
 refine List.map_congr_left fun d hd => ?_
 obtain ⟨h1, h2, h3, h4⟩ := (dotB_iff _).1 (h d hd)
 simp only [Function.comp, id]
 rw [Int.toNat_of_nonneg h1, Int.toNat_of_nonneg (by omega)]
theorem toN_in {l : List (Int × Int)} (h : ∀ d ∈ l, dotB d = true) : ∀ d ∈ toN l, inR d.1 d.2 := fun d hd => by
 unfold toN at hd
 obtain ⟨e, he, rfl⟩ := List.mem_map.1 hd
 obtain ⟨h1, h2, h3, h4⟩ := (dotB_iff _).1 (h e he)
 exact ⟨by simp only; omega, by simp only; omega, by simp only; omega⟩
theorem chk_dots {V : List Int} {M : List (Int × Int)} (h : chkK V M = 0) : M.length ≤ 60 ∧ ∀ d ∈ M, dotB d = true := by
 obtain ⟨v, m, rfl, rfl, ok, hl⟩ := chkK_zero h
 refine ⟨by rw [pairs_len]; exact hl, fun d hd => ?_⟩
 unfold pairs at hd
 obtain ⟨e, he, rfl⟩ := List.mem_map.1 hd
 obtain ⟨h1, h2, h3⟩ := ok.dots e he
 rw [dotB_iff]
 refine ⟨by simp only; omega, by simp only; omega, by simp only; omega, by simp only; omega⟩
theorem nd_in {x : VerD} (h : chkOne x = 0) : (ndI x).length ≤ 61 ∧ ∀ d ∈ ndI x, dotB d = true := by
 obtain ⟨-, h2, h3, -⟩ := chkOne_zero h
 obtain ⟨h4, h5⟩ := chk_dots h3
 refine ⟨by unfold ndI; rw [List.length_cons]; omega, fun d hd => ?_⟩
 rcases List.mem_cons.1 hd with rfl | hd
 ·exact argB_dot h2
 ·exact h5 d hd
theorem pI_in {L : List VerD} (id : List UInt8) (h : ∀ x ∈ L, chkOne x = 0) : ∀ d ∈ pI L id, dotB d = true := fun d hd => by
 unfold pI at hd
 obtain ⟨x, hx, h1⟩ := List.mem_flatMap.1 hd
 exact (nd_in (h x (List.mem_filter.1 hx).1)).2 d h1
theorem flatMap_len {α β : Type} {f : α → List β} {n : Nat} : ∀ l : List α, (∀ x ∈ l, (f x).length ≤ n) → (l.flatMap f).length ≤ n * l.length
 | [], _ => by simp
 | a :: l, h => by
  have ih := flatMap_len l fun x hx => h x (List.mem_cons_of_mem _ hx)
  have h1 := h a (List.mem_cons_self ..)
  rw [List.flatMap_cons, List.length_append, List.length_cons, Nat.mul_add]
  omega
theorem pI_len {L : List VerD} (id : List UInt8) (h : ∀ x ∈ L, chkOne x = 0) : (pI L id).length ≤ 61 * L.length := by
 unfold pI
 refine Nat.le_trans (flatMap_len _ fun x hx => (nd_in (h x (List.mem_filter.1 hx).1)).1) (Nat.mul_le_mul_left _ ?_)
 exact List.length_filter_le _ _
end Rm
namespace Go.Proofs.YtglbnggkkjhokaaGreat
open Go.RowKit Rm Gx
theorem knR_vecN {w : World} {base n c : Nat} {a : Option Addr} {mv : Value} {v : List Nat} (h : w.ownsRow base 3 1 (.slice a n c) n (flatI v)) (hm : NoM mv) : KnR w (.agg #[.slice a n c, mv]) (ints v) [] := by
 have hn : n = v.length := by
  have := h.1
  unfold flatI at this
  rw [List.length_map] at this
  omega
 subst hn
 exact knR_vecM h hm
theorem noM_rd {w : World} {vv : Value} {V : List Int} {M : List (Int × Int)} {mv : Value} (h : KnR w (.agg #[vv, mv]) V M) : KnR w (.agg #[vv, .slice none 0 0]) V [] := by
 obtain ⟨a, b, e, h1, -, -⟩ := h
 have e1 : vv = a := by
  injection e with e
  have e := congrArg Array.toList e
  exact (List.cons.inj e).1
 subst e1
 exact ⟨_, _, rfl, h1, (noM_nil w).1, (noM_nil w).2⟩
theorem join_v (k k' : Value) (D E : DS) (V' : List Int) (M' : List (Int × Int)) (base : Nat) (w : World) (hb : base ≤ w.heap.size) (hD : Pure D) (hE : chkK V' M' = 0) (hEE : E = memB (V'.map Int.toNat) []) (hk : KnR w k (ints (formV D)) []) (hk' : KnR w k' V' []) :
    Calls Tryz.prog 127 #[k, k'] w fun e w' => ∃ va n vc ma mc, e = .returned (.tuple #[.agg #[.slice va n vc, .slice ma 0 mc], .int .i64 0]) ∧ w'.ownsRow base 3 1 (.slice va n vc) n (flatI (formV (orD D E))) ∧ NoM (.slice ma 0 mc) ∧ Gr w w' := by
  obtain ⟨v, m, rfl, rfl, ok, hl⟩ := chkK_zero hE
  have ev : (ints v).map Int.toNat = v := by
    unfold ints
    rw [List.map_map]
    conv => rhs; rw [← List.map_id v]
    exact List.map_congr_left fun x _ => by simp
  rw [ev] at hEE
  subst hEE
  have okD : OkV (formV D) [] := by have h := form_ok D; rw [hD.formM] at h; exact h
  have okE : OkV v [] := ⟨ok.len, ok.le, ok.last, (fun d hd => by cases hd), List.Pairwise.nil⟩
  refine (join_ok k k' (formV D) v [] [] w hk hk' okD okE (by simp) (by simp)).mono ?_
  rintro e w' ⟨h, g⟩
  have hp : Pure (orD D (memB v [])) := hD.or (pure_vec v)
  have he : EqD (orD (memB (formV D) []) (memB v [])) (orD D (memB v [])) := fun s c i => by
    have := form_mem D s c i
    rw [hD.formM] at this
    unfold orD
    rw [this]
  obtain ⟨k2, h1, h2⟩ := (h.congr he).one
  obtain ⟨f1, f2, f3⟩ := fr_of (D := orD D (memB v [])) (by rw [hp.formM]; exact Nat.zero_le _)
  rw [f1] at h1
  rw [f2, f3, hp.formM] at h2
  have h5 := h2.rd
  obtain ⟨vv, mv, rfl, h3, h4⟩ := h2.less hb
  obtain ⟨a, c, rfl, -⟩ := ow_form h3
  obtain ⟨a', c', rfl, -⟩ := ow_form h4
  exact ⟨a, _, c, a', c', h1, h3, noM_of h5, g⟩
theorem addAll_n (D : DS) (I : List (Int × Int)) (nV nD : Nat) (ka kc ra : Option Addr) (kb kd rc base : Nat) (hD : Pure D) (hI : ∀ d ∈ I, dotB d = true) (hl : I.length ≤ 10000) (hN : NoM (.slice kc 0 kd)) (w0 w : World) (hG : Gr w0 w) (hB : w0.heap.size ≤ base) (hz : base ≤ w.heap.size) (ho : w.ownsRow base 51 2 (.slice ra nD rc) nD (flat I)) (hv : w.ownsRow base 3 1 (.slice ka nV kb) nV (flatI (formV D))) :
  Calls Tryz.prog 134 #[.agg #[.slice ka nV kb, .slice kc 0 kd], .slice ra nD rc] w fun e w' => ∃ k, e = .returned (.tuple #[k, .int .i64 (frE (addS D (toN I)))]) ∧ KnW base w' k (frV (addS D (toN I))) (frM (addS D (toN I))) ∧ w.grownBy w' (Value.ownBlock (.slice ra nD rc)) := by
 have hn : nV = (formV D).length := by
  have := hv.1
  unfold flatI at this
  rw [List.length_map] at this
  omega
 have hd : nD = (toN I).length := by
  have h1 := ho.1
  have h2 : (flat I).length = I.length * 2 := by rw [flat_len]
  unfold toN
  rw [List.length_map]
  omega
 rw [hn, hd]
 rw [hn] at hv
 rw [hd] at ho
 have ho2 : w.ownsRow base 51 2 (.slice ra (toN I).length rc) (toN I).length (flat (pairs (toN I))) := by rw [pairs_toN hI]; exact ho
 exact addAll_any D (toN I) ka kc ra kb kd rc base hD (toN_in hI) (by unfold toN; rw [List.length_map]; exact hl) hN w0 w hG hB hz ho2 hv
end Go.Proofs.YtglbnggkkjhokaaGreat
/- shelf.Past. -/
namespace Go.Proofs.YtglbnggkkjhokaaGreat
open Go.RowKit Rm Gx
theorem rdc_M {w : World} {x : VerI} (h : MeanV w x) : RdC 2 w (.slice x.ma x.d.M.length x.mc) x.d.M.length (flat x.d.M) := by
 obtain ⟨a, b, e, -, -, h3⟩ := h
 have e1 : (Value.slice x.ma x.d.M.length x.mc) = b := by
  unfold VerI.k at e
  injection e with e
  have e := congrArg Array.toList e
  exact (List.cons.inj (List.cons.inj e).2).1
 rw [e1]
 exact h3
theorem knR_form {w : World} {k : Value} {V : List Int} {M : List (Int × Int)} (h : KnR w k V M) : ∃ a n c a' m c', k = .agg #[.slice a n c, .slice a' m c'] := by
 obtain ⟨vv, mv, rfl, ⟨a, c, rfl, -⟩, ⟨a', c', rfl, -⟩, -⟩ := h
 exact ⟨_, _, _, _, _, _, rfl⟩
theorem past_w (K : List VerI) (va : Option Addr) (vc : Nat) (l : List UInt8) (hE : chkShf (K.map VerI.d) = 0) (w : World) (hv : RdA encVr 8 w va K) (hm : MeansV w K) :
  Calls Tryz.prog 78 #[.slice va K.length vc, .string (bs l)] w fun e w' => ∃ k bs, e = .returned (.tuple #[k, .int .i64 (frE (pD (K.map VerI.d) l))]) ∧ KnW bs w' k (frV (pD (K.map VerI.d) l)) (frM (pD (K.map VerI.d) l)) ∧ Gr w w' := by
 have hO := (okS_iff _).1 hE
 have hok := hO.one
 have hl60 : K.length ≤ 60 := by have := hO.len; simpa using this
 refine enter (N := 51) Tryz.func78 rfl rfl rfl (fun a0 ok0 h0 => ?_)
 have bx : a0.eval (.tmp 0) = .slice va K.length vc := h0 0 _ rfl
 have b2 : a0.eval (.tmp 1) = .string (bs l) := h0 1 _ rfl
 clear h0
 have G0 := Gr.refl w
 refine wp_seq_k (fun K1 b4 => (wp_region_lit (sal (cs := #[.slice none 0 0, .slice none 0 0]) ok0 rfl (wn _ rfl) rfl (o_al (z := .agg #[.slice none 0 0, .slice none 0 0]) (by kernel_rfl)) (fun d8 w4 b3 W5 n2 => ?_))))
 have l6 : w.heap.size ≤ b3 := by rw [W5.eq]; exact G0.size
 have G7 := G0.trans W5.gr
 refine sw n2.ok (o_as ev_const) (fun d9 n8 => ?_)
 refine wpList_nil (th_n (b4 _ _ (wp_seq_k (fun K9 b7 => (wp_seq_k (fun fb b8 => (wp_region_lit (sw n8.ok (o_mv (n8.n (n2.n bx))) (fun fc aA => ?_)))))))))
 refine sc aA.ok rfl (wn _ rfl) rfl (o_f1 Tryz.func133 rfl rfl rfl aA.at_) ((vchk_any K va vc w4 (hv.gr G7) (hm.gr G7)).mono fun e w' h => (by rw [hE] at h; exact h)) ?_
 rintro _ ff ⟨rfl, bA⟩
 refine ⟨_, rfl, fun fg aB => ?_⟩
 have bB := G7.trans bA
 have bC := W5.bk.gr bA
 refine sw aB.ok (o_as aB.at_) (fun fh aC => ?_)
 refine wpList_nil (th_n (b8 _ _ (wp_seq_k (fun fi b9 => (wp_region_lit (sw aC.ok (o_mv aC.at_) (fun fj aD => ?_)))))))
 refine sw aD.ok (o_neq (b := false) aD.at_ ev_const (by decide)) (fun fk aE => ?_)
 refine wpList_nil (th_n (b9 _ _ (wp_cond_false (aE.at_) ?_)))
 refine wp_skip (th_n (b7 _ _ (wp_seq_k (fun fl ca => (wp_region_lit (sal (cs := #[.slice none 0 0, .slice none 0 0]) aE.ok rfl (wn _ rfl) rfl (o_al (z := .agg #[.slice none 0 0, .slice none 0 0]) (by kernel_rfl)) (fun fm aT aF aG aH => ?_)))))))
 have cb : b3 < aF := by rw [aG.eq]; exact bC.lt
 have cc : w.heap.size ≤ aF := by rw [aG.eq]; exact bB.size
 have bD := bB.trans aG.gr
 have bE := bC.gr aG.gr
 refine wpList_nil (th_n (ca _ _ (wp_seq_k (fun fn cd => (wp_region_lit (sw aH.ok (o_as ev_const) (fun fo av => ?_)))))))
 refine wpList_nil (th_n (cd _ _ (wp_seq_k (fun fp cf => (wp_seq_k (fun fq cg => (wp_region_lit ?_)))))))
 have ch := av.n (aH.n (aE.n (aD.n (aC.n (aB.n (aA.n (n8.n (n2.n bx))))))))
 refine sw av.ok (o_mv ch) (fun fr ao => ?_)
 refine sw ao.ok (o_len ao.at_ Tryz.underlying41) (fun ft ap => ?_)
 refine sw ap.ok (o_mv ev_const) (fun fu ag => ?_)
 refine wpList_nil (th_n (cg _ _ (wp_block ?_)))
 obtain ⟨base, aU⟩ : ∃ n, n = aT.heap.size := ⟨_, rfl⟩
 have a9 : b3 < base := by rw [aU]; exact bE.lt
 have aV : aF < base := by rw [aU]; exact aG.bk.lt
 have aW : w.heap.size ≤ base := by rw [aU]; exact bD.size
 have ci : base ≤ aT.heap.size := Nat.le_of_eq aU
 have cj := World.ownsRow_nil aT base 51 2
 have ck := World.ownsRow_nil aT base 3 1
 have cl := ag.n (ap.n (ao.n (av.n (aH.n (aE.n (aD.n (aC.n (aB.n (aA.n (n8.n (n2.n b2)))))))))))
 have cm := ag.n (ap.n (ao.n (av.n (aH.n (aE.n (aD.n (aC.n (aB.n (aA.n (n8.n n2.at_))))))))))
 have cn := ag.n (ap.n (ao.n (av.n (aH.n (aE.n (aD.n (aC.n (aB.n (aA.n n8.at_)))))))))
 have co := ag.n (ap.n (ao.n (av.n aH.at_)))
 have cp := ag.n (ap.n (ao.n av.at_))
 refine lp (fun (nL : Nat) (aL : Act) (wL : World) => ∃ i : Nat, ∃ ka : Option Addr, ∃ nV : Nat, ∃ kb : Nat, ∃ kc : Option Addr, ∃ kd : Nat, ∃ ra : Option Addr, ∃ nD : Nat, ∃ rc : Nat, nL = K.length - i ∧ Ok 51 aL ∧ Gr w wL ∧ (aL.eval (.tmp 1) = .string (bs l)) ∧ (aL.eval (.tmp 4) = .pointer (some ⟨b3, 0, none⟩)) ∧ (aL.eval (.tmp 5) = .int .i64 0) ∧ (aL.eval (.tmp 7) = .pointer (some ⟨aF, 0, none⟩)) ∧ (aL.eval (.tmp 8) = .slice ra nD rc) ∧ (aL.eval (.tmp 17) = .slice va K.length vc) ∧ (aL.eval (.tmp 18) = .int .i64 ((K.length : Nat) : Int)) ∧ (aL.eval (.tmp 19) = .int .i64 (i : Int)) ∧ (Bk wL b3 #[.slice none 0 0, .slice none 0 0] 75) ∧ (Bk wL aF #[.slice ka nV kb, .slice kc 0 kd] 75) ∧ (World.ownsRow wL base 51 2 (.slice ra nD rc) (nD) ((flat (pI (List.take i (K.map VerI.d)) l)))) ∧ (World.ownsRow wL base 3 1 (.slice ka nV kb) (nV) ((flatI (formV (pV (List.take i (K.map VerI.d)) l))))) ∧ (base ≤ wL.heap.size) ∧ (i ≤ K.length) ∧ (NoM (.slice kc 0 kd))) _ ⟨0, none, 0, 0, none, 0, none, 0, 0, rfl, ag.ok, bD, cl, cm, cn, co, cp, (ag.n (ap.n ao.at_)), (ag.n ap.at_), ag.at_, bE, aG.bk, cj, (by rw [pV_nil]; exact ck), ci, by omega, noM_nil⟩ ?_
 rintro fv fx cq ⟨i, ka, nV, kb, kc, kd, ra, nD, rc, hmI45, okI45, GI45, cr, ba, bF, bb, bc, bd, bf, aX, kb3I45, kb23I45, odrI45, okvI45, zbaseI45, hiI45, hNI45⟩ KI45 hKI45
 have hlnI45 : nD ≤ 61 * i := by
  have h1 := (odrI45).1
  have h2 := pI_len l (L := (List.take i (K.map VerI.d))) (fun x hx => hok x (List.mem_of_mem_take hx))
  rw [flat_len] at h1
  rw [List.length_take] at h2
  have h3 : 61 * min i (K.map VerI.d).length ≤ 61 * i := Nat.mul_le_mul_left _ (Nat.min_le_left _ _)
  omega
 refine wp_seq_k (fun fy cx => (wp_region_lit (sw okI45 (o_ltI aX bf) (fun fz a => ?_))))
 refine wpList_nil (th_n (cx _ _ (wp_seq_k (fun fA cy => ?_))))
 by_cases bG : (i : Int) < ((K.length : Nat) : Int)
 ·refine wp_cond_true ((a.at_).trans (congrArg Value.bool (decide_eq_true bG))) ?_
  refine wp_skip (th_n (cy _ _ (wp_seq_k (fun fB bH => (wp_block (wp_seq_k (fun fC cz => (wp_region_lit ?_))))))))
  have bh : i < List.length K := by omega
  obtain ⟨bh60, fh60, cA, cB, cC⟩ := hv (ne_nil_of_lt bh)
  obtain ⟨xh60, ah⟩ : ∃ x, (K)[i]? = some x := ⟨_, List.getElem?_eq_getElem bh⟩
  refine sw a.ok (o_iaV (i := i) (s := 8) cA (a.n bd) (a.n aX) Tryz.underlying41 (by kernel_rfl) bh) (fun fD C => ?_)
  refine sw C.ok (o_ldA (k := fh60 + i * 8) C.at_ (cs := [.string (bs xh60.d.id), .int .i64 (xh60.d.s), .int .i64 (xh60.d.c), .int .i64 (xh60.d.t), .int .i64 (xh60.d.n), .int .i64 (xh60.d.b), .slice xh60.va xh60.d.V.length xh60.vc, .slice xh60.ma xh60.d.M.length xh60.mc]) (fun j v hv => (Below.cell GI45 cB).trans (cC _ _ ah j v hv)) Tryz.underlying106 rfl (by kernel_rfl)) (fun fE D => ?_)
  refine sal (cs := #[.string (bs []), .int .i64 0, .int .i64 0, .int .i64 0, .int .i64 0, .int .i64 0, .slice none 0 0, .slice none 0 0]) D.ok rfl (wn _ rfl) rfl (o_al (z := .agg #[.string (bs []), .int .i64 0, .int .i64 0, .int .i64 0, .int .i64 0, .int .i64 0, .slice none 0 0, .slice none 0 0]) (by kernel_rfl)) (fun fF fG y E o => ?_)
  have cD : b3 < y := by rw [E.eq]; exact kb3I45.lt
  have bI : aF < y := by rw [E.eq]; exact kb23I45.lt
  have cE : w.heap.size ≤ y := by rw [E.eq]; exact GI45.size
  have bJ : ∀ k, Value.ownBlock (.slice ra nD rc) = some k → k < y := fun k e => by rw [E.eq]; exact ow_in odrI45 k e
  have cF : ∀ k, Value.ownBlock (.slice ka nV kb) = some k → k < y := fun k e => by rw [E.eq]; exact ow_in okvI45 k e
  have cG := GI45.trans E.gr
  have cH := kb3I45.gr E.gr
  have cI := kb23I45.gr E.gr
  have cJ := Nat.le_trans zbaseI45 E.gr.size
  have cK := ow_gr odrI45 E.gr
  have cL := ow_gr okvI45 E.gr
  refine ssR rfl (wn _ rfl) (o_stR o.at_ (o.n D.at_) E.bk (by kernel_rfl) rfl (by simp [Value.oneCell'])) E.bk (fun bi aI bj => ?_)
  have bl : Gr w bi := Below.upd cG cE aI
  have bK := cH.upd aI (Nat.ne_of_lt cD)
  have bm := cI.upd aI (Nat.ne_of_lt bI)
  have bn : base ≤ bi.heap.size := by rw [aI.size]; exact cJ
  have bL := ow_upd_ne cK aI bJ
  have bM := ow_upd_ne cL aI cF
  refine wpList_nil (th_n (cz _ _ (wp_seq_k (fun fH cM => (wp_region_lit (sw o.ok (o_fa (z := 1) o.at_ Tryz.underlying106 rfl (by kernel_rfl) rfl rfl) (fun fI A => ?_)))))))
  refine sw A.ok (o_ld A.at_ (Tryz.isAgg9 _) (bj.cell _ rfl)) (fun fJ B => ?_)
  have bo := B.n (A.n (o.n (D.n (C.n (a.n cr)))))
  refine sw B.ok (o_mv bo) (fun fK q => ?_)
  refine sw q.ok (o_eqS (q.n B.at_) q.at_) (fun fL g => ?_)
  refine wpList_nil (th_n (cM _ _ ?_))
  by_cases aJ : xh60.d.id = l
  ·refine wp_cond_true ((g.at_).trans (congrArg Value.bool (decide_eq_true aJ))) ?_
   refine wp_seq_k (fun fM cO => (wp_region_lit ?_))
   have bO := g.n (q.n (B.n (A.n (o.n (D.n (C.n (a.n bb)))))))
   refine sw g.ok (o_ldR bO bm Tryz.underlying75 rfl (by kernel_rfl)) (fun fO W => ?_)
   have bp := W.n (g.n (q.n (B.n (A.n o.at_))))
   refine sw W.ok (o_fa (z := 2) bp Tryz.underlying106 rfl (by kernel_rfl) rfl rfl) (fun fS F => ?_)
   refine sw F.ok (o_fa (z := 1) F.at_ Tryz.underlying75 rfl (by kernel_rfl) rfl rfl) (fun fT G => ?_)
   refine sw G.ok (o_ld G.at_ (Tryz.isAgg45 _) (bj.cell _ rfl)) (fun fU H => ?_)
   refine sw H.ok (o_bd (cells := #[.slice xh60.va xh60.d.V.length xh60.vc, .slice none 0 0]) (vs := [(0, .slice xh60.va xh60.d.V.length xh60.vc)]) (by simp [H.at_, ev_const]) (by kernel_rfl)) (fun fV I => ?_)
   have hMh60 : xh60.d.M.length ≤ 60 := (chk_dots (chkOne_zero (hok _ (List.mem_map_of_mem (List.mem_of_getElem? ah)))).2.2.1).1
   have cS := I.n (H.n (G.n (F.n W.at_)))
   refine sc I.ok rfl (wn _ rfl) rfl (o_f2 Tryz.func127 rfl rfl rfl cS I.at_) ((by have h := join_v (.agg #[.slice ka nV kb, .slice kc 0 kd]) (.agg #[.slice xh60.va xh60.d.V.length xh60.vc, .slice none 0 0]) (pV (List.take i (K.map VerI.d)) l) (vD xh60.d) xh60.d.V xh60.d.M base bi bn (pV_pure _ _) (chkOne_zero (hok _ (List.mem_map_of_mem (List.mem_of_getElem? ah)))).2.2.1 rfl (knR_vecN bM hNI45) (noM_rd ((hm _ (List.mem_of_getElem? ah)).gr bl)); rw [← pV_step (map_at ah) aJ] at h; exact h)) ?_
   rintro _ fW ⟨ka2, nV2, kb2, kc2, kd2, rfl, hkv2, hN2, aK⟩
   refine ⟨_, rfl, fun fX T => ?_⟩
   have cT := bl.trans aK
   have cU := bK.gr aK
   have bS := bm.gr aK
   have cV := bj.gr aK
   have cW := Nat.le_trans bn aK.size
   have cX := ow_gr bL aK
   refine sw T.ok (o_mv T.at_) (fun fY J => ?_)
   refine sw J.ok (o_ex J.at_ rfl) (fun fZ O => ?_)
   refine sw O.ok (o_ex (O.n J.at_) rfl) (fun f0 U => ?_)
   have bT := U.n (O.n (J.n (T.n (I.n (H.n (G.n (F.n (W.n bO))))))))
   refine ssR rfl (wn _ rfl) (o_stR bT (U.n O.at_) bS (by kernel_rfl) rfl (by simp [Value.oneCell'])) bS (fun aY aM cY => ?_)
   have cZ : Gr w aY := Below.upd cT cc aM
   have c0 := cU.upd aM (Nat.ne_of_lt cb)
   have c1 := cV.upd aM (Nat.ne_of_gt bI)
   have c2 : base ≤ aY.heap.size := by rw [aM.size]; exact cW
   have c3 := ow_upd cX aM aV
   have c4 := ow_upd hkv2 aM aV
   refine wpList_nil (th_n (cO _ _ (h_startB y #[.string (bs xh60.d.id), .int .i64 (xh60.d.s), .int .i64 (xh60.d.c), .int .i64 (xh60.d.t), .int .i64 (xh60.d.n), .int .i64 (xh60.d.b), .slice xh60.va xh60.d.V.length xh60.vc, .slice xh60.ma xh60.d.M.length xh60.mc] 106 10 #[false, false, false, false, false, false, false, false, false, false] (by kernel_rfl) rfl rfl ?_)))
   have ax := (Gr.refl aY).drew
   generalize aY.drew = f1 at *
   have c5 := cZ.trans ax
   have c6 := c0.gr ax
   have c7 := cY.gr ax
   have aq := c1.gr ax
   have c8 := Nat.le_trans c2 ax.size
   have c9 := ow_gr c3 ax
   have da := ow_gr c4 ax
   have db := U.n (O.n (J.n (T.n (I.n (H.n (G.n (F.n (W.n (g.n (q.n (B.n (A.n (o.n (D.n (C.n (a.n bc))))))))))))))))
   refine h_take (S := (SxB y #[.string (bs xh60.d.id), .int .i64 (xh60.d.s), .int .i64 (xh60.d.c), .int .i64 (xh60.d.t), .int .i64 (xh60.d.n), .int .i64 (xh60.d.b), .slice xh60.va xh60.d.V.length xh60.vc, .slice xh60.ma xh60.d.M.length xh60.mc] 106)) (i := 0) (fuel := 9) U.ok rfl rfl rfl (by kernel_rfl) (by kernel_rfl) (by kernel_rfl) (fun _ _ _ _ _ h => h) (wn _ rfl) (fun x hx => o_mv db) aq (fun f2 X => ?_)
   have dc := X.n (U.n (O.n (J.n (T.n (I.n (H.n (G.n (F.n bp))))))))
   refine h_take (S := (SxB y #[.string (bs xh60.d.id), .int .i64 (xh60.d.s), .int .i64 (xh60.d.c), .int .i64 (xh60.d.t), .int .i64 (xh60.d.n), .int .i64 (xh60.d.b), .slice xh60.va xh60.d.V.length xh60.vc, .slice xh60.ma xh60.d.M.length xh60.mc] 106)) (i := 1) (fuel := 8) X.ok rfl rfl rfl (by kernel_rfl) (by kernel_rfl) (by kernel_rfl) (fun _ _ _ _ _ h => h) (wn _ rfl) (fun x hx => o_fa (z := 2) dc Tryz.underlying106 rfl (by kernel_rfl) rfl rfl) aq (fun f3 Y => ?_)
   refine h_take (S := (SxB y #[.string (bs xh60.d.id), .int .i64 (xh60.d.s), .int .i64 (xh60.d.c), .int .i64 (xh60.d.t), .int .i64 (xh60.d.n), .int .i64 (xh60.d.b), .slice xh60.va xh60.d.V.length xh60.vc, .slice xh60.ma xh60.d.M.length xh60.mc] 106)) (i := 2) (fuel := 7) Y.ok rfl rfl rfl (by kernel_rfl) (by kernel_rfl) (by kernel_rfl) (fun _ _ _ _ _ h => h) (wn _ rfl) (fun x hx => o_ldA (k := 1) (cs := [.int .i64 (xh60.d.s), .int .i64 (xh60.d.c)]) Y.at_ (bk_part (show Bk x y #[.string (bs xh60.d.id), .int .i64 (xh60.d.s), .int .i64 (xh60.d.c), .int .i64 (xh60.d.t), .int .i64 (xh60.d.n), .int .i64 (xh60.d.b), .slice xh60.va xh60.d.V.length xh60.vc, .slice xh60.ma xh60.d.M.length xh60.mc] 106 from hx) rfl) Tryz.underlying51 rfl (by kernel_rfl)) aq (fun f4 Z => ?_)
   have dd := Z.n (Y.n (X.n (U.n (O.n (J.n (T.n (I.n (H.n (G.n (F.n bp))))))))))
   refine h_take (S := (SxB y #[.string (bs xh60.d.id), .int .i64 (xh60.d.s), .int .i64 (xh60.d.c), .int .i64 (xh60.d.t), .int .i64 (xh60.d.n), .int .i64 (xh60.d.b), .slice xh60.va xh60.d.V.length xh60.vc, .slice xh60.ma xh60.d.M.length xh60.mc] 106)) (i := 5) (fuel := 6) Z.ok rfl rfl rfl (by kernel_rfl) (by kernel_rfl) (by kernel_rfl) (fun _ _ _ _ _ h => h) (wn _ rfl) (fun x hx => o_fa (z := 2) dd Tryz.underlying106 rfl (by kernel_rfl) rfl rfl) aq (fun f5 aa => ?_)
   refine h_take (S := (SxB y #[.string (bs xh60.d.id), .int .i64 (xh60.d.s), .int .i64 (xh60.d.c), .int .i64 (xh60.d.t), .int .i64 (xh60.d.n), .int .i64 (xh60.d.b), .slice xh60.va xh60.d.V.length xh60.vc, .slice xh60.ma xh60.d.M.length xh60.mc] 106)) (i := 6) (fuel := 5) aa.ok rfl rfl rfl (by kernel_rfl) (by kernel_rfl) (by kernel_rfl) (fun _ _ _ _ _ h => h) (wn _ rfl) (fun x hx => o_fa (z := 1) aa.at_ Tryz.underlying75 rfl (by kernel_rfl) rfl rfl) aq (fun f6 ab => ?_)
   refine h_take (S := (SxB y #[.string (bs xh60.d.id), .int .i64 (xh60.d.s), .int .i64 (xh60.d.c), .int .i64 (xh60.d.t), .int .i64 (xh60.d.n), .int .i64 (xh60.d.b), .slice xh60.va xh60.d.V.length xh60.vc, .slice xh60.ma xh60.d.M.length xh60.mc] 106)) (i := 7) (fuel := 4) ab.ok rfl rfl rfl (by kernel_rfl) (by kernel_rfl) (by kernel_rfl) (fun _ _ _ _ _ h => h) (wn _ rfl) (fun x hx => o_ld ab.at_ (Tryz.isAgg73 _) ((show Bk x y #[.string (bs xh60.d.id), .int .i64 (xh60.d.s), .int .i64 (xh60.d.c), .int .i64 (xh60.d.t), .int .i64 (xh60.d.n), .int .i64 (xh60.d.b), .slice xh60.va xh60.d.V.length xh60.vc, .slice xh60.ma xh60.d.M.length xh60.mc] 106 from hx).cell _ rfl)) aq (fun f7 ac => ?_)
   have df := ac.n (ab.n (aa.n Z.at_))
   obtain ⟨f8, dg, dh, bq⟩ := info3_of (show (Tryz.prog.info? 51).map (fun i => (i.zero, i.size)) = some (some (.agg #[.int .i64 0, .int .i64 0]), 2) by kernel_rfl)
   refine h_sals (S := (SxB y #[.string (bs xh60.d.id), .int .i64 (xh60.d.s), .int .i64 (xh60.d.c), .int .i64 (xh60.d.t), .int .i64 (xh60.d.n), .int .i64 (xh60.d.b), .slice xh60.va xh60.d.V.length xh60.vc, .slice xh60.ma xh60.d.M.length xh60.mc] 106)) (i := 3) (fuel := 3) (cs := #[.int .i64 (xh60.d.s), .int .i64 (xh60.d.c)]) (by kernel_rfl) rfl ac.ok rfl (wn _ rfl) rfl (o_bs (vs := [(0, .agg #[.int .i64 (xh60.d.s), .int .i64 (xh60.d.c)])]) (by simp [df, ev_const]) Tryz.underlying73 dg dh (by rw [bq]; rfl) (by rw [bq]; rfl) (by rw [bq]; kernel_rfl)) (fun w_ g_ => Bk.gr aq g_) (fun f9 ga gb ar ad => ?_)
   have di := c5.trans ar.gr
   have dj := c6.gr ar.gr
   have dk := c7.gr ar.gr
   have bU := aq.gr ar.gr
   have bV := Nat.le_trans c8 ar.gr.size
   have aO := ow_gr c9 ar.gr
   have dl := ow_gr da ar.gr
   have dm := ad.n (ac.n (ab.n (aa.n (Z.n (Y.n X.at_)))))
   obtain ⟨gc, dn, dp, dq, dr⟩ := info_of (show (Tryz.prog.info? 51).map (fun i => (i.zero, i.size, i.bytes)) = some (some (.agg #[.int .i64 0, .int .i64 0]), 2, 16) by kernel_rfl)
   refine h_app (S := SxB y #[.string (bs xh60.d.id), .int .i64 (xh60.d.s), .int .i64 (xh60.d.c), .int .i64 (xh60.d.t), .int .i64 (xh60.d.n), .int .i64 (xh60.d.b), .slice xh60.va xh60.d.V.length xh60.vc, .slice xh60.ma xh60.d.M.length xh60.mc] 106) (i := 4) (fuel := 2) (base := base) (n := nD) (xs := (flat (pI (List.take i (K.map VerI.d)) l))) (m := 1) (news := [.int .i64 xh60.d.s, .int .i64 xh60.d.c]) (by kernel_rfl) rfl ad.ok (wn _ rfl) rfl Tryz.underlying73 dn dp dq dr rfl (by omega) dm aO ad.at_ rfl (fun j u hu => by rw [add_n]; exact bk_part ar.bk (k := 0) rfl j u hu) (fun u hu => by simp at hu; rcases hu with rfl | rfl <;> rfl) (by simp only [maxLen]; omega) (by omega) bV (fun w_ g_ => bk_grownT bU aO g_ (by decide)) (fun gd gf gg au gg168 af => ?_)
   obtain ⟨gh, gi, rfl, gj⟩ := ow_form au
   have bW := Gr.grown di gg168 (fun k e => Nat.le_trans aW (ow_lt aO k e))
   have ds := dj.grown gg168 (ow_lt aO) a9
   have dt := dk.grown gg168 (ow_lt aO) aV
   have br := bU.grown_ne gg168 bJ
   have bX := Nat.le_trans bV gg168.size
   have du := ow_grown dl aO gg168 rfl
   obtain ⟨gk, dv, dx, dy, dz⟩ := info_of (show (Tryz.prog.info? 51).map (fun i => (i.zero, i.size, i.bytes)) = some (some (.agg #[.int .i64 0, .int .i64 0]), 2, 16) by kernel_rfl)
   refine h_appR (S := SxB y #[.string (bs xh60.d.id), .int .i64 (xh60.d.s), .int .i64 (xh60.d.c), .int .i64 (xh60.d.t), .int .i64 (xh60.d.n), .int .i64 (xh60.d.b), .slice xh60.va xh60.d.V.length xh60.vc, .slice xh60.ma xh60.d.M.length xh60.mc] 106) (i := 8) (fuel := 1) (base := base) (n := (nD + 1)) (xs := ((flat (pI (List.take i (K.map VerI.d)) l)) ++ [.int .i64 xh60.d.s, .int .i64 xh60.d.c])) (m := xh60.d.M.length) (news := flat xh60.d.M) (by kernel_rfl) rfl af.ok (wn _ rfl) rfl rfl Tryz.underlying73 dv dx dy dz rfl (by omega) af.at_ au (af.n (ad.n ac.at_)) (rdc_M ((hm _ (List.mem_of_getElem? ah)).gr bW)) (by simp only [maxLen]; omega) (by omega) bX br (fun w_ g_ => bk_grownT br au g_ (by decide)) (fun gl gm gn bY gg183 ai => ?_)
   obtain ⟨dA, dB, rfl, go⟩ := ow_form bY
   have dC := Gr.grown bW gg183 (fun k e => Nat.le_trans aW (ow_lt au k e))
   have dD := ds.grown gg183 (ow_lt au) a9
   have dE := dt.grown gg183 (ow_lt au) aV
   have dF := bk_grownT br au gg183 (by decide)
   have dG := Nat.le_trans bX gg183.size
   have dH := ow_grown du au gg183 rfl
   refine h_take (S := (SxB y #[.string (bs xh60.d.id), .int .i64 (xh60.d.s), .int .i64 (xh60.d.c), .int .i64 (xh60.d.t), .int .i64 (xh60.d.n), .int .i64 (xh60.d.b), .slice xh60.va xh60.d.V.length xh60.vc, .slice xh60.ma xh60.d.M.length xh60.mc] 106)) (i := 9) (fuel := 0) ai.ok rfl rfl rfl (by kernel_rfl) (by kernel_rfl) (by kernel_rfl) (fun _ _ _ _ _ h => h) (wn _ rfl) (fun x hx => o_as ai.at_) dF (fun gp aj => ?_)
   refine wpAnyH_done (by kernel_rfl) ?_ _
   refine ib_n (th_n (bH _ _ (wp_region_lit ?_)))
   have dI := aj.n (ai.n (af.n (ad.n (ac.n (ab.n (aa.n (Z.n (Y.n (X.n (U.n (O.n (J.n (T.n (I.n (H.n (G.n (F.n (W.n (g.n (q.n (B.n (A.n (o.n (D.n (C.n (a.n aX))))))))))))))))))))))))))
   refine sw aj.ok (o_add (r := ((i + 1 : Nat) : Int)) dI ev_const (by omega) (by omega)) (fun gq ak => ?_)
   refine sw ak.ok (o_mv ak.at_) (fun gs al => ?_)
   refine wpList_nil ?_
   have dJ := al.n (ak.n (aj.n (ai.n (af.n (ad.n (ac.n (ab.n (aa.n (Z.n (Y.n (X.n (U.n (O.n (J.n (T.n (I.n (H.n (G.n (F.n (W.n (g.n (q.n bo))))))))))))))))))))))
   have dK := al.n (ak.n (aj.n (ai.n (af.n (ad.n (ac.n (ab.n (aa.n (Z.n (Y.n (X.n (U.n (O.n (J.n (T.n (I.n (H.n (G.n (F.n (W.n (g.n (q.n (B.n (A.n (o.n (D.n (C.n (a.n ba))))))))))))))))))))))))))))
   have dL := al.n (ak.n (aj.n (ai.n (af.n (ad.n (ac.n (ab.n (aa.n (Z.n (Y.n (X.n (U.n (O.n (J.n (T.n (I.n (H.n (G.n (F.n (W.n (g.n (q.n (B.n (A.n (o.n (D.n (C.n (a.n bF))))))))))))))))))))))))))))
   have dM := al.n (ak.n (aj.n (ai.n (af.n (ad.n (ac.n (ab.n (aa.n (Z.n (Y.n (X.n bT)))))))))))
   have dO := al.n (ak.n (aj.n (ai.n (af.n (ad.n (ac.n (ab.n (aa.n (Z.n (Y.n (X.n (U.n (O.n (J.n (T.n (I.n (H.n (G.n (F.n (W.n (g.n (q.n (B.n (A.n (o.n (D.n (C.n (a.n bd))))))))))))))))))))))))))))
   have dS := al.n (ak.n (aj.n (ai.n (af.n (ad.n (ac.n (ab.n (aa.n (Z.n (Y.n (X.n (U.n (O.n (J.n (T.n (I.n (H.n (G.n (F.n (W.n (g.n (q.n (B.n (A.n (o.n (D.n (C.n (a.n bf))))))))))))))))))))))))))))
   exact th_n (hKI45 _ _ _ (by omega) ⟨i + 1, ka2, nV2, kb2, kc2, kd2, dA, ((nD + 1) + xh60.d.M.length), dB, rfl, al.ok, dC, dJ, dK, dL, dM, (al.n (ak.n aj.at_)), dO, dS, al.at_, dD, dE, (by have h := bY; rw [pI_step (map_at ah) aJ, flat_app]; simpa [ndI, flat, List.append_assoc] using h), dH, dG, by omega, hN2⟩)
  ·refine wp_cond_false ((g.at_).trans (congrArg Value.bool (decide_eq_false aJ))) ?_
   refine wp_skip (ib_n (th_n (bH _ _ (wp_region_lit ?_))))
   have dT := g.n (q.n (B.n (A.n (o.n (D.n (C.n (a.n aX)))))))
   refine sw g.ok (o_add (r := ((i + 1 : Nat) : Int)) dT ev_const (by omega) (by omega)) (fun gt am => ?_)
   refine sw am.ok (o_mv am.at_) (fun gu an => ?_)
   refine wpList_nil ?_
   have dU := an.n (am.n (g.n (q.n bo)))
   have dV := an.n (am.n (g.n (q.n (B.n (A.n (o.n (D.n (C.n (a.n ba)))))))))
   have dW := an.n (am.n (g.n (q.n (B.n (A.n (o.n (D.n (C.n (a.n bF)))))))))
   have dX := an.n (am.n (g.n (q.n (B.n (A.n (o.n (D.n (C.n (a.n bb)))))))))
   have dY := an.n (am.n (g.n (q.n (B.n (A.n (o.n (D.n (C.n (a.n bc)))))))))
   have dZ := an.n (am.n (g.n (q.n (B.n (A.n (o.n (D.n (C.n (a.n bd)))))))))
   have d0 := an.n (am.n (g.n (q.n (B.n (A.n (o.n (D.n (C.n (a.n bf)))))))))
   exact th_n (hKI45 _ _ _ (by omega) ⟨i + 1, ka, nV, kb, kc, kd, ra, nD, rc, rfl, an.ok, bl, dU, dV, dW, dX, dY, dZ, d0, an.at_, bK, bm, (by rw [pI_skip (map_at ah) aJ]; exact bL), (by rw [pV_skip (map_at ah) aJ]; exact bM), bn, by omega, by omega⟩)
 ·refine wp_cond_false ((a.at_).trans (congrArg Value.bool (decide_eq_false bG))) ?_
  refine wp_exit (th_x (th_x (ib_x (th_n (cf _ _ (wp_seq_k (fun gx d1 => (wp_region_lit (sw a.ok (o_ldR (a.n bb) kb23I45 Tryz.underlying75 rfl (by kernel_rfl)) (fun gy aZ => ?_))))))))))
  refine sw aZ.ok (o_mv (aZ.n (a.n bc))) (fun gz a1 => ?_)
  refine sc a1.ok rfl (wn _ rfl) rfl (o_f2 Tryz.func134 rfl rfl rfl (a1.n aZ.at_) a1.at_) ((by have h := addAll_n (pV (List.take i (K.map VerI.d)) l) (pI (List.take i (K.map VerI.d)) l) nV nD ka kc ra kb kd rc base (pV_pure _ _) (pI_in l (fun x hx => hok x (List.mem_of_mem_take hx))) (by have h2 := pI_len l (L := (List.take i (K.map VerI.d))) (fun x hx => hok x (List.mem_of_mem_take hx)); rw [List.length_take, List.length_map] at h2; have h3 : 61 * min i K.length ≤ 61 * 60 := Nat.mul_le_mul_left _ (by omega); omega) hNI45 w cq GI45 aW zbaseI45 odrI45 okvI45; rw [List.take_of_length_le (by rw [List.length_map]; omega)] at h; exact h)) ?_
  rintro _ gA ⟨kk, rfl, hkk, bZ⟩
  obtain ⟨pa, pn, pc, qa, qn, qc, rfl⟩ := knR_form hkk.rd
  refine ⟨_, rfl, fun gB a2 => ?_⟩
  have d2 := Gr.grown GI45 bZ (fun k e => Nat.le_trans aW (ow_lt odrI45 k e))
  have bt := kb3I45.grown bZ (ow_lt odrI45) a9
  refine sw a2.ok (o_ex a2.at_ rfl) (fun gC a3 => ?_)
  refine sw a3.ok (o_ex (a3.n a2.at_) rfl) (fun gD a4 => ?_)
  have b0 := a4.n (a3.n (a2.n (a1.n (aZ.n (a.n ba)))))
  refine ssR rfl (wn _ rfl) (o_stR b0 (a4.n a3.at_) bt (by kernel_rfl) rfl (by simp [Value.oneCell'])) bt (fun d3 b1 d4 => ?_)
  have d5 : Gr w d3 := Below.upd d2 l6 b1
  have d6 := KnW.tks hkk (tks_upd b1 bt (by decide))
  refine sw a4.ok (o_as a4.at_) (fun gE bu => ?_)
  refine wpList_nil (th_n (d1 _ _ (wp_ret (ret2 bu.ok rfl (⟨_, _, (bu.n b0), ld_row d4 Tryz.underlying75 rfl (by kernel_rfl)⟩) (bu.at_) ⟨_, _, rfl, d6, d5⟩))))
end Go.Proofs.YtglbnggkkjhokaaGreat
/- What is past of a thing in the store of what was told. -/
namespace Rm
open Go Go.RowKit Gx
theorem mem_pF {L : List VerD} {id : List UInt8} {x : VerD} : x ∈ pF L id ↔ x ∈ L ∧ x.id = id := by
 unfold pF
 rw [List.mem_filter, decide_eq_true_eq]
theorem pD_of {L : List VerD} {id : List UInt8} {s c : Nat} (h : pD L id s c = true) : ∃ x ∈ L, x.id = id ∧ (dsV x s c = true ∨ (s = x.s.toNat ∧ c = x.c.toNat)) := by
 unfold pD addS at h
 rw [Bool.or_eq_true, decide_eq_true_eq] at h
 rcases h with h | h
 ·unfold pV at h
  obtain ⟨x, hx, h1⟩ := List.any_eq_true.1 h
  obtain ⟨h2, h3⟩ := mem_pF.1 hx
  refine ⟨x, h2, h3, .inl ?_⟩
  unfold vD at h1
  unfold dsV
  rw [memB_iff] at h1 ⊢
  rcases h1 with h1 | h1
  ·exact .inl h1
  ·cases h1
 ·unfold toN at h
  obtain ⟨d, hd, e⟩ := List.mem_map.1 h
  unfold pI at hd
  obtain ⟨x, hx, h1⟩ := List.mem_flatMap.1 hd
  obtain ⟨h2, h3⟩ := mem_pF.1 hx
  refine ⟨x, h2, h3, ?_⟩
  injection e with e1 e2
  rcases List.mem_cons.1 h1 with rfl | h1
  ·exact .inr ⟨e1.symm, e2.symm⟩
  ·refine .inl ?_
   unfold dsV
   rw [memB_iff]
   exact .inr (List.mem_map.2 ⟨d, h1, by rw [e1, e2]⟩)
end Rm
namespace Gx
open Go Go.RowKit Rm
section
variable {P : Program} {ev : Operand → Value} {d : Option Tmp} {ty : TypeId} {p : String} {af : Array Edge} {g : Option (Nat × Bool)} {w : World}
end
end Gx
namespace Go.Proofs.YtglbnggkkjhokaaGreat
open Go.RowKit Rm Gx
end Go.Proofs.YtglbnggkkjhokaaGreat
/- A site: what it holds; what stands while a site changes. -/
namespace Rm
open Go Go.RowKit Gx
structure SiD where
  me : Nat
  made : Nat
  stamp : Nat
  T : Nat → Nat
  L : List VerD
  P : List PtX
end Rm
namespace Go.Proofs.YtglbnggkkjhokaaGreat
open Go.RowKit Rm Gx
def siT : List TypeId := [3, 51, 177, 134, 106, 151, 77]
def TkW (w w' : World) : Prop := ∀ (k : Nat) (cs : Array Value) (t : TypeId) (fr : Nat × Nat), w.heap[k]? = some (.cells cs t fr) → siT.contains t = true → w'.heap[k]? = w.heap[k]?
theorem siT_p (t : TypeId) (h : ptT.contains t = true) : siT.contains t = true := by
 unfold ptT at h
 unfold siT
 simp only [List.contains_cons, List.contains_nil, Bool.or_false, Bool.or_eq_true, beq_iff_eq] at h ⊢
 rcases h with h | h | h | h <;> simp [h]
theorem siT_s (t : TypeId) (h : shT.contains t = true) : siT.contains t = true := by
 unfold shT at h
 unfold siT
 simp only [List.contains_cons, List.contains_nil, Bool.or_false, Bool.or_eq_true, beq_iff_eq] at h ⊢
 rcases h with h | h <;> simp [h]
theorem TkW.p {w w' : World} (h : TkW w w') : Tk w w' := fun k cs t fr e ht => h k cs t fr e (siT_p t ht)
theorem TkW.s {w w' : World} (h : TkW w w') : TkS w w' := fun k cs t fr e ht => h k cs t fr e (siT_s t ht)
theorem tkw_gr {w w' : World} (g : Gr w w') : TkW w w' := fun k cs t fr h _ => Below.block g k (Array.getElem?_eq_some_iff.1 h).1
theorem tkw_gb {w w' : World} {b : Nat} {cs : Array Value} {t : TypeId} (g : w.grownBy w' (some b)) (h : Bk w b cs t) (ht : siT.contains t = false) : TkW w w' := fun k cs' t' fr h' ht' => g.block k (Array.getElem?_eq_some_iff.1 h').1 (fun e => by
 obtain rfl : k = b := by simpa using e
 unfold Bk at h
 rw [h] at h'
 injection h' with h'
 injection h' with _ h2
 subst h2
 rw [ht] at ht'
 cases ht')
theorem tkw_upd {w w' : World} {b : Nat} {cs : Array Value} {t : TypeId} (u : Upd w w' b) (h : Bk w b cs t) (ht : siT.contains t = false) : TkW w w' := tkw_gb u.grown h ht
theorem ow_tkw {w w' : World} {base s n : Nat} {t : TypeId} {v : Value} {xs : List Value} (h : w.ownsRow base t s v n xs) (k : TkW w w') (ht : siT.contains t = true) : w'.ownsRow base t s v n xs := by
 obtain ⟨h1, h2 | ⟨b, cap, cur, rfl, h3, hg, h4⟩⟩ := h
 ·exact ⟨h1, .inl h2⟩
 ·exact ⟨h1, .inr ⟨b, cap, cur, rfl, h3, (k b cur t (0, 0) hg ht).trans hg, h4⟩⟩
theorem ow_any {w : World} {base s n : Nat} {t : TypeId} {v : Value} {xs : List Value} (h : w.ownsRow base t s v n xs) : w.ownsRow 0 t s v n xs := ow_lessP h (Nat.zero_le _)
theorem ResV.tkw {base : Nat} {w w' : World} {u : Value} {L : List VerD} (h : ResV base w u L) (k : TkW w w') : ResV base w' u L := by
 obtain ⟨R, h1, h2, h3⟩ := h
 exact ⟨R, h1, ow_tkw h2 k (by decide), h3.tk k.s⟩
theorem ResV.any {base : Nat} {w : World} {u : Value} {L : List VerD} (h : ResV base w u L) : ResV 0 w u L := by
 obtain ⟨R, h1, h2, h3⟩ := h
 exact ⟨R, h1, ow_any h2, h3.base (Nat.zero_le _)⟩
theorem ResV.rd {base : Nat} {w : World} {u : Value} {L : List VerD} (h : ResV base w u L) : ∃ (K : List VerI) (a : Option Addr) (c : Nat), u = .slice a K.length c ∧ K.map VerI.d = L ∧ K.length ≤ c ∧ (a = none → c = 0) ∧ RdA encVr 8 w a K ∧ MeansV w K := by
 obtain ⟨R, h1, h2, h3⟩ := h
 obtain ⟨a, c, rfl, hc⟩ := ow_form h2
 exact ⟨R, a, c, rfl, h1, hc, (ow_capf h2).2, RdA.own encVr_ok h2 rfl, h3.mean⟩
theorem ResV.none (w : World) : ResV 0 w (.slice none 0 0) [] := ⟨[], rfl, World.ownsRow_nil w 0 106 8, fun x hx => by cases hx⟩
def PL (base : Nat) (w : World) (v : Value) (F : List PtX) : Prop := w.ownsRow base 151 3 v F.length (flatE encP F) ∧ OwnsP base w F
theorem PL.tkw {base : Nat} {w w' : World} {v : Value} {F : List PtX} (h : PL base w v F) (k : TkW w w') : PL base w' v F := ⟨ow_tkw h.1 k (by decide), h.2.tk k.p⟩
theorem OwnsP.any {base : Nat} {w : World} {F : List PtX} (h : OwnsP base w F) : OwnsP 0 w F := fun x hx => (h x hx).base (Nat.zero_le _)
theorem PL.any {base : Nat} {w : World} {v : Value} {F : List PtX} (h : PL base w v F) : PL 0 w v F := ⟨ow_any h.1, h.2.any⟩
theorem PL.rd {base : Nat} {w : World} {v : Value} {F : List PtX} (h : PL base w v F) : ∃ (a : Option Addr) (c : Nat), v = .slice a F.length c ∧ F.length ≤ c ∧ (a = none → c = 0) ∧ RdA encP 3 w a F ∧ MeansP w F := by
 obtain ⟨a, c, rfl, hc⟩ := ow_form h.1
 exact ⟨a, c, rfl, hc, ow_nil h.1, RdA.own encP_ok h.1 rfl, h.2.mean⟩
theorem PL.nil (w : World) : PL 0 w (.slice none 0 0) [] := ⟨World.ownsRow_nil w 0 151 3, fun x hx => by cases hx⟩
theorem FO.any {base n : Nat} {w : World} {v : Value} {T : Nat → Nat} (h : FO base n w v T) : FO 0 n w v T := h.base (Nat.zero_le _)
def SiteAt (w : World) (b : Nat) (S : SiD) : Prop := ∃ fa fn fc sa sn sc la lc, Bk w b #[.int .i64 (S.me : Int), .int .i64 (S.made : Int), .int .i64 (S.stamp : Int), .slice fa fn fc, .slice sa sn sc, .slice la S.P.length lc] 125 ∧ FO 0 16 w (.slice fa fn fc) S.T ∧ ResV 0 w (.slice sa sn sc) S.L ∧ PL 0 w (.slice la S.P.length lc) S.P
theorem SiteAt.bk {w : World} {b : Nat} {S : SiD} (h : SiteAt w b S) : ∃ cs, Bk w b cs 125 := by
 obtain ⟨_, _, _, _, _, _, _, _, h, _⟩ := h
 exact ⟨_, h⟩
theorem SiteAt.lt {w : World} {b : Nat} {S : SiD} (h : SiteAt w b S) : b < w.heap.size := by
 obtain ⟨cs, h⟩ := h.bk
 exact h.lt
theorem SiteAt.gr {w w' : World} {b : Nat} {S : SiD} (h : SiteAt w b S) (g : Gr w w') : SiteAt w' b S := by
 obtain ⟨fa, fn, fc, sa, sn, sc, la, lc, h1, h2, h3, h4⟩ := h
 have k := tkw_gr g
 exact ⟨fa, fn, fc, sa, sn, sc, la, lc, h1.gr g, h2.tk k.p, h3.tkw k, h4.tkw k⟩
theorem SiteAt.tk {w w' : World} {b : Nat} {S : SiD} (h : SiteAt w b S) (g : w.grownBy w' (some b)) : TkW w w' := by
  obtain ⟨cs, h⟩ := h.bk
  exact tkw_gb g h (by decide)
theorem SiteAt.other {w w' : World} {b c : Nat} {S U : SiD} (h : SiteAt w c U) (k : SiteAt w b S) (hne : c ≠ b) (g : w.grownBy w' (some b)) : SiteAt w' c U := by
 have q := k.tk g
 obtain ⟨fa, fn, fc, sa, sn, sc, la, lc, h1, h2, h3, h4⟩ := h
 exact ⟨fa, fn, fc, sa, sn, sc, la, lc, (g.block c h1.lt (fun e => hne (by simpa using e))).trans h1, h2.tk q.p, h3.tkw q, h4.tkw q⟩
theorem bk_site {w w' : World} {b c : Nat} {S : SiD} {cs : Array Value} {t : TypeId} (h : Bk w c cs t) (k : SiteAt w b S) (g : w.grownBy w' (some b)) (ht : Nat.beq t 125 = false) : Bk w' c cs t :=
 (g.block c h.lt (fun e => by
  obtain rfl : c = b := by simpa using e
  obtain ⟨cs', h'⟩ := k.bk
  unfold Bk at h h'
  rw [h] at h'
  injection h' with h'
  injection h' with _ h2
  rw [h2] at ht
  simp at ht)).trans h
theorem gr_site {a w w' : World} {b : Nat} (h : Gr a w) (g : w.grownBy w' (some b)) (hb : a.heap.size ≤ b) : Gr a w' := h.grown g (fun k e => by cases e; exact hb)
end Go.Proofs.YtglbnggkkjhokaaGreat
/- A region that draws its order: a chain of calls, one of which changes a block that is older; then two parts of its answer are taken, a block is made whenever it likes, and the first part is stored in it. -/
namespace Gx
open Go Go.RowKit Rm
section
variable {P : Program} {ops : Array Oper} {Q : Exit → Act → World → Prop} {N : Nat} {a₀ : Act} {w₀ : World} {hs : List Nat} {r : Option Nat} {c : Nat}
structure PreM (ops : Array Oper) (hs : List Nat) (js : Js) (N : Nat) (a₀ : Act) (w₀ : World) (r : Option Nat) (c i : Nat) (o : Oper) (a : Act) (w : World) : Prop where
 ok : Ok N a
 gr : w₀.grownBy w r
 gr0 : i = c → Gr w₀ w
 old : ∀ t, (fdH ops hs).all (fun d => !Nat.beq t d) = true → a.eval (.tmp t) = a₀.eval (.tmp t)
 pre : ∀ j, waits o j = true → jAt js j (a.eval (.tmp (dstAt ops j))) w
theorem prem_drop {n i : Nat} {js : Js} {J : Value → World → Prop} {o' : Oper} {a : Act} {w : World} (hb : backs ops = true) (hi : i < n + 1) (ho' : ops[i]? = some o') (p : PreM ops hs ((n, J) :: js) N a₀ w₀ r c i o' a w) : PreM ops hs js N a₀ w₀ r c i o' a w := by
 refine ⟨p.ok, p.gr, p.gr0, p.old, fun j hj => ?_⟩
 have h1 := p.pre j hj
 have hlt : j < n := by
  unfold waits at hj
  obtain ⟨e, he, hh⟩ := List.any_eq_true.1 hj
  have h2 := backs_spec hb i o' ho' e (by simpa using he) (Bool.and_eq_true_iff.1 hh).1
  simp only [Bool.and_eq_true] at hh
  have h3 := Nat.eq_of_beq_eq_true hh.2
  omega
 rwa [jAt_ne (by omega)] at h1
structure PostM (ops : Array Oper) (hs : List Nat) (r : Option Nat) (f : Nat) (js : Js) (N : Nat) (a₀ : Act) (w₀ : World) (a : Act) (w : World) : Prop where
 ok : Ok N a
 gr : w₀.grownBy w r
 old : ∀ t, (fdH ops (f :: hs)).all (fun d => !Nat.beq t d) = true → a.eval (.tmp t) = a₀.eval (.tmp t)
 js : ∀ j, hd hs j = true → jAt js j (a.eval (.tmp (dstAt ops j))) w
end
section
variable {N : Nat} {ap : Act} {wp w₀ : World} {df d0 d1 : Nat} {v0 v1 : Value} {z : Array Value} {ty : TypeId} {b0 b1 bf : Bool} {a : Act} {w : World}
end
section
variable {P : Program} {ops : Array Oper} {Q : Exit → Act → World → Prop} {N : Nat}
end
section
variable {P : Program} {ops : Array Oper} {Q : Exit → Act → World → Prop} {N : Nat}
theorem t_ev {i j fuel d : Nat} {oi oj : Oper} {v : Value} {L : Array Bool} {a : Act} {w w2 : World} (hr0 : Region.ready .any ops L = [i, j]) (hr1 : Region.ready .any ops (L.setIfInBounds i true) = [j]) (hr2 : Region.ready .any ops (L.setIfInBounds j true) = [i])
    (hL : (L.setIfInBounds j true).setIfInBounds i true = (L.setIfInBounds i true).setIfInBounds j true) (hoi : ops[i]? = some oi) (hoj : ops[j]? = some oj) (ok : Ok N a) (hd : oi.dst = some d) (hdj : oj.dst = none)
    (hwi : ∀ a : Act, Region.wanted oi (yielded ops a.tmps) = true) (hwj : ∀ a : Act, Region.wanted oj (yielded ops a.tmps) = true) (hN : Nat.blt d N = true)
    (runi : ∀ w1 : World, (execOp a.eval oi).run P w1 = .ok (.value v) w1) (runj : ∀ a' : Act, (∀ t, Nat.beq t d = false → a'.eval (.tmp t) = a.eval (.tmp t)) → (execOp a'.eval oj).run P w = .ok .skip w2)
    (h : ∀ a', Nx N a a' d v → wpAny P .any ops Q fuel ((L.setIfInBounds i true).setIfInBounds j true) a' w2) : wpAny P .any ops Q (fuel + 2) L a w := by
  have nx := Nx.put ok hN v
  refine wpAny_all hr0 (by simp) fun k hk => ?_
  rcases List.mem_cons.1 hk with rfl | hk
  · refine w_val hoi (hwi _) hd (runi w) ?_
    refine wpAny_all hr1 (by simp) fun k hk => ?_
    obtain rfl : k = j := by simpa using hk
    exact w_st hoj (hwj _) hdj (runj _ fun t q => nx.oth t q) (h _ nx)
  · obtain rfl : k = j := by simpa using hk
    refine w_st hoj (hwj _) hdj (runj _ fun _ _ => rfl) ?_
    refine wpAny_all hr2 (by simp) fun k hk => ?_
    obtain rfl : k = i := by simpa using hk
    refine w_val hoi (hwi _) hd (runi w2) ?_
    rw [hL]
    exact h _ nx
theorem st_part {ev : Operand → Value} {w : World} {x y : Operand} {ty : TypeId} {p : String} {af : Array Edge} {gd : Option (Nat × Bool)} {b k : Nat} {t t' : TypeId} {cs cs' : Array Value} {vs : List Value}
    (hx : ev x = .pointer (some ⟨b, k, none⟩)) (hy : ev y = .agg vs.toArray) (hi : (P.info? t).map (·.size) = some vs.length)
    (hb : Bk w b cs t') (hk : Nat.ble (k + vs.length) cs.size = true) (h1 : vs.all (·.oneCell') = true) (hcs : cs'.toList = splL cs.toList k vs) : ∃ w2, (execOp ev (Oper.mk none (.store t x y) ty p af gd)).run P w = .ok .skip w2 ∧ Upd w w2 b ∧ Bk w2 b cs' t' := by
  have hk := Nat.le_of_ble_eq_true hk
  obtain ⟨c2, h2, h3⟩ := setCells_blk (b := b) vs k w cs hb
  have hc2 : c2 = cs' := by
    apply Array.toList_inj.1
    rw [h3, hcs]
  subst hc2
  have hst := run_storeCells_cells (P := P) b k vs 0 w (by
    intro j hj
    simp only [Nat.add_zero]
    have hlt : k + j < cs.size := by omega
    rw [hb.cell (k + j) (Array.getElem?_eq_getElem hlt)]
    rfl) (fun j hj => hb.frozen _) (fun v hv => List.all_eq_true.1 h1 v hv)
  simp only [Nat.add_zero] at hst
  refine ⟨w.setCells b k vs, ?_, setCells_upd _ _ _ _, h2⟩
  have hsz := size_of hi w
  unfold execOp
  simp only [hx, hy, Instr.storeAt, Instr.sureAddr, storeVar, Value.cells, Sem.run_bind, Sem.run_pure, Result.andThen_ok, hsz]
  simp [hst, go_sem]
theorem h_stP {bs : List Nat} {w₀ : World} {i fuel : Nat} {L : Array Bool} {a : Act} {w : World} {x y : Operand} {ty : TypeId} {p : String} {af : Array Edge} {gd : Option (Nat × Bool)} {b k : Nat} {t t' : TypeId} {cs cs' : Array Value} {vs : List Value}
  (hr : Region.ready .any ops L = [i]) (ho : ops[i]? = some (Oper.mk none (.store t x y) ty p af gd)) (hw : Region.wanted (Oper.mk none (.store t x y) ty p af gd) (yielded ops a.tmps) = true) (hx : a.eval x = .pointer (some ⟨b, k, none⟩)) (hy : a.eval y = .agg vs.toArray) (hi : (P.info? t).map (·.size) = some vs.length)
  (hb : Bk w b cs t') (hk : Nat.ble (k + vs.length) cs.size = true) (h1 : vs.all (·.oneCell') = true) (hcs : cs'.toList = splL cs.toList k vs) (hS : Sx bs w₀ w) (hm : b ∈ bs)
  (h : ∀ w', Upd w w' b → Bk w' b cs' t' → Sx bs w₀ w' → wpAnyH P .any ops Q (Sx bs w₀) fuel (L.setIfInBounds i true) a w') : wpAnyH P .any ops Q (Sx bs w₀) (fuel + 1) L a w := by
 obtain ⟨w2, hrun, hu, hbk⟩ := st_part (P := P) (ev := a.eval) (ty := ty) (p := p) (af := af) (gd := gd) hx hy hi hb hk h1 hcs
 exact h_st hr ho rfl hw hrun (hS.upd hu hm) (h _ hu hbk (hS.upd hu hm))
variable {ev : Operand → Value} {d : Option Tmp} {ty : TypeId} {p : String} {af : Array Edge} {g : Option (Nat × Bool)} {w : World}
theorem o_nc {x : Operand} {ad : Addr} (h : ev x = .pointer (some ad)) : (execOp ev (Oper.mk d (.nilCheck x) ty p af g)).run P w = .ok (.value (.pointer (some ad))) w := by
 simp [execOp, h, go_sem]
end
end Gx
/- site.isSite, copyFilter, has, known, only, ownDots. -/
namespace Rm
open Go Go.RowKit Gx
def zv (n : Nat) : Array Value := madeCells (Value.int .i64 0).cells n
def ovA (me made : Nat) : Array Value := ((ints (List.replicate me 0 ++ [made])).map (Value.int .i64)).toArray
end Rm
namespace Go.Proofs.YtglbnggkkjhokaaGreat
open Go.RowKit Rm Gx
theorem siz_info : (Tryz.prog.info? 3).map (fun i => (i.zero, i.size, i.bytes)) = some (some (.int .i64 0), 1, 8) := by kernel_rfl
section
variable {ev : Operand → Value} {d : Option Tmp} {ty : TypeId} {p : String} {af : Array Edge} {g : Option (Nat × Bool)} {w : World}
theorem o_mkI {x y : Operand} {n : Nat} (hn : n ≤ 30) (hx : ev x = .int .i64 (n : Int)) (hy : ev y = .int .i64 (n : Int)) : (execOp ev (Oper.mk d (.makeSlice 45 x y) ty p af g)).run Tryz.prog w = .ok (.value (.slice (some ⟨w.heap.size, 0, none⟩) n n)) (w.alloc (.cells (zv n) 3)) := by
 obtain ⟨i0, hi0, hz0, hz1, hz2⟩ := info_parts siz_info
 have h := run_make (P := Tryz.prog) w 45 3 i0 _ Tryz.underlying45 hi0 hz0 .i64 .i64 (n : Int) (n : Int) (by omega) (by omega) (by rw [hz2]; omega) (by omega)
 rw [hz1] at h
 have h' : (Instr.makeSlice 45 (.int .i64 (n : Int)) (.int .i64 (n : Int))).run Tryz.prog w = .ok (.slice (some ⟨w.heap.size, 0, none⟩) n n) (w.alloc (.cells (zv n) 3)) := by
  unfold zv
  simpa using h
 unfold execOp
 simp only [hx, hy, Sem.run_bind, h', Result.andThen_ok]
 rfl
end
theorem zv_at {n k : Nat} (h : k < n) : (zv n)[k]? = some (.int .i64 0) := by
 unfold zv madeCells
 rw [Array.getElem?_map, Array.getElem?_range, if_pos h]
 simp [Value.cells, Nat.mod_one]
theorem zv_sz (n : Nat) : (zv n).size = n := by unfold zv; rw [size_madeCells]
theorem zv_set (me made : Nat) : (zv (me + 1)).setIfInBounds me (.int .i64 (made : Int)) = ovA me made := by
 apply Array.ext_getElem?
 intro i
 unfold ovA ints
 rw [Array.getElem?_setIfInBounds]
 simp only [zv_sz, List.getElem?_toArray, List.map_append, List.map_replicate, List.map_cons, List.map_nil]
 by_cases h : me = i
 ·subst h
  simp
 ·rw [if_neg h]
  rcases Nat.lt_or_ge i me with q | q
  ·rw [zv_at (by omega), List.getElem?_append_left (by simpa using q)]
   simp [q]
  ·rw [List.getElem?_append_right (by simpa using q), Array.getElem?_eq_none (by rw [zv_sz]; omega)]
   symm
   apply List.getElem?_eq_none
   simp
   omega
def ownV (me made : Nat) : List Nat := if made = 0 then [] else List.replicate me 0 ++ [made]
def ownD (me made : Nat) : DS := fun s c => decide (s = me ∧ 1 ≤ c ∧ c ≤ made)
theorem ownV_ok {me made : Nat} (hm : me < 5) (hk : made ≤ 1000) : OkV (ownV me made) [] := by
 unfold ownV
 by_cases h : made = 0
 ·rw [if_pos h]; exact ⟨by simp, by simp, by simp, by simp, by simp⟩
 ·rw [if_neg h]
  refine ⟨by simp; omega, ?_, ?_, by simp, by simp⟩
  ·intro x hx
   rcases List.mem_append.1 hx with hx | hx
   ·rw [List.eq_of_mem_replicate hx]; omega
   ·rw [List.mem_singleton.1 hx]; exact hk
  ·simp [h]
theorem ownV_mem {me made : Nat} (hm : me < 5) (hk : made ≤ 1000) : EqD (memB (ownV me made) []) (ownD me made) := fun s c i => by
 rw [Bool.eq_iff_iff, memB_iff]
 unfold ownD
 rw [decide_eq_true_eq]
 simp only [List.not_mem_nil, or_false]
 have h1 := i.2.1
 unfold ownV
 by_cases h : made = 0
 ·rw [if_pos h]; simp [cv]; omega
 ·rw [if_neg h]
  have e : cv (List.replicate me 0 ++ [made]) s = if s = me then made else 0 := by
   unfold cv
   by_cases q : s = me
   ·subst q; simp
   ·rw [if_neg q]
    rcases Nat.lt_or_ge s me with q2 | q2
    ·simp [List.getElem?_append_left, q2]
    ·rw [List.getD_eq_getElem?_getD, List.getElem?_eq_none (by simp; omega)]
     rfl
  rw [e]
  split <;> omega
theorem ownV_form {me made : Nat} (hm : me < 5) (hk : made ≤ 1000) : formV (ownD me made) = ownV me made ∧ formM (ownD me made) = [] := (ownV_ok hm hk).form (ownV_mem hm hk)
theorem fs_zero (w : World) : FS w (.slice none 0 0) (fun _ => 0) := ⟨[], RdF.nil w, (fun b hb => by cases hb), by simp, fun t _ => rfl⟩
theorem isSite_ok (n : Nat) (hn : n < 5) (w : World) :
  Calls Tryz.prog 67 #[.int .i64 (n : Int)] w fun e w' => e = .returned (.bool true) ∧ Gr w w' := by
 refine enter (N := 9) Tryz.func67 rfl rfl rfl (fun t ok0 l => ?_)
 have o : t.eval (.tmp 0) = .int .i64 (n : Int) := l 0 _ rfl
 clear l
 have u := Gr.refl w
 refine wp_seq_k (fun B y => (wp_region_lit (sw ok0 (o_as ev_const) (fun C c => ?_))))
 refine wpList_nil (th_n (y _ _ (wp_seq_k (fun D z => (wp_region_lit (sw c.ok (o_mv (c.n o)) (fun E g => ?_)))))))
 refine sw g.ok (o_geq g.at_ ev_const (decide_eq_true (show (n : Int) ≥ 0 by omega))) (fun F h => ?_)
 refine sw h.ok (o_mv h.at_) (fun G a => ?_)
 have A := a.n (h.n (g.n (c.n o)))
 refine sv a.ok rfl (wgT rfl (yl 2 true rfl a.at_) rfl) rfl (o_mv A) (fun H b => ?_)
 refine sv b.ok rfl (wgT rfl (yl 2 true rfl (b.n a.at_)) rfl) rfl (o_lss b.at_ ev_const (decide_eq_true (show (n : Int) < 5 by omega))) (fun I j => ?_)
 refine sw j.ok (o_pkT (j.n (b.n a.at_)) j.at_) (fun J q => ?_)
 refine sw q.ok (o_as q.at_) (fun K r => ?_)
 refine wpList_nil (th_n (z _ _ (wp_ret (ret1 r.ok rfl (r.at_) ⟨rfl, u⟩))))
theorem copyf_any (fv : Value) (T : Nat → Nat) (w : World) (hf : FS w fv T) :
  Calls Tryz.prog 68 #[fv] w fun e w' => ∃ a n c, e = .returned (.tuple #[.slice a n c, .int .i64 0]) ∧ FO w.heap.size 16 w' (.slice a n c) T ∧ Gr w w' := by
 refine enter (N := 8) Tryz.func68 rfl rfl rfl (fun z ok0 q => ?_)
 have A : z.eval (.tmp 0) = fv := q 0 _ rfl
 clear q
 have B := Gr.refl w
 refine wp_seq_k (fun G C => (wp_region_lit (sw ok0 (o_as ev_const) (fun H r => ?_))))
 refine sw r.ok (o_as ev_const) (fun I t => ?_)
 refine wpList_nil (th_n (C _ _ (wp_seq_k (fun J D => (wp_region_lit (sw t.ok (o_mv (t.n (r.n A))) (fun K y => ?_)))))))
 refine sc y.ok rfl (wn _ rfl) rfl (o_f2 Tryz.func65 rfl rfl rfl y.at_ ev_const) ((fjoin_own hf (fs_zero _))) ?_
 rintro _ L ⟨u, rfl, hu, E⟩
 obtain ⟨fa, fn, fc, rfl⟩ := hu.form
 refine ⟨_, rfl, fun M b => ?_⟩
 have F := B.trans E
 refine sw b.ok (o_ex b.at_ rfl) (fun O g => ?_)
 refine sw g.ok (o_ex (g.n b.at_) rfl) (fun S j => ?_)
 refine sw j.ok (o_as (j.n g.at_)) (fun U l => ?_)
 refine sw l.ok (o_as (l.n j.at_)) (fun V o => ?_)
 refine wpList_nil (th_n (D _ _ (wp_ret (ret2 o.ok rfl ((o.n l.at_)) (o.at_) ⟨fa, fn, fc, rfl, by have h := hu; simp only [Nat.or_zero] at h; exact h, F⟩))))
theorem sihas_any (fv : Value) (T : Nat → Nat) (t n : Int) (w : World) (hf : FS w fv T) :
  Calls Tryz.prog 70 #[fv, .agg #[.int .i64 (t), .int .i64 (n)]] w fun e w' => e = .returned (.bool (bitT T t n)) ∧ Gr w w' := by
 refine enter (N := 14) Tryz.func70 rfl rfl rfl (fun r ok0 a => ?_)
 have D : r.eval (.tmp 0) = fv := a 0 _ rfl
 have E : r.eval (.tmp 1) = .agg #[.int .i64 (t), .int .i64 (n)] := a 1 _ rfl
 clear a
 have F := Gr.refl w
 refine wp_seq_k (fun L G => (wp_region_lit (sal (cs := #[.int .i64 (t), .int .i64 (n)]) ok0 rfl (wn _ rfl) rfl (o_box E) (fun M O S u b => ?_))))
 have y := F.trans u.gr
 refine sw b.ok (o_as ev_const) (fun U c => ?_)
 refine wpList_nil (th_n (G _ _ (wp_seq_k (fun V H => (wp_region_lit (sw c.ok (o_mv (c.n (b.n D))) (fun W g => ?_)))))))
 refine sw g.ok (o_ldR (g.n (c.n b.at_)) u.bk Tryz.underlying49 rfl (by kernel_rfl)) (fun X h => ?_)
 refine sc h.ok rfl (wn _ rfl) rfl (o_f2 Tryz.func57 rfl rfl rfl (h.n g.at_) h.at_) (fhas_ok (hf.gr y) t n) ?_
 rintro _ Y ⟨rfl, I⟩
 refine ⟨_, rfl, fun Z z => ?_⟩
 have J := y.trans I
 refine sw z.ok (o_mv z.at_) (fun aa j => ?_)
 refine sw j.ok (o_ex j.at_ rfl) (fun ab l => ?_)
 refine sw l.ok (o_ex (l.n j.at_) rfl) (fun ac o => ?_)
 refine sw o.ok (o_as (o.n l.at_)) (fun ad q => ?_)
 refine sw q.ok (o_as (q.n o.at_)) (fun af A => ?_)
 refine wpList_nil (th_n (H _ _ (wp_seq_k (fun ag K => (wp_region_lit (sw A.ok (o_mv (A.n q.at_)) (fun ah B => ?_)))))))
 refine sw B.ok (o_as B.at_) (fun ai C => ?_)
 refine wpList_nil (th_n (K _ _ (wp_ret (ret1 C.ok rfl (C.at_) ⟨rfl, J⟩))))
theorem known_any (K : List PtX) (ka : Option Addr) (kc : Nat) (x : VerI) (hl : K.length ≤ 30) (w : World) (hv : RdA encP 3 w ka K) (hm : MeansP w K) :
  Calls Tryz.prog 91 #[.slice ka K.length kc, .agg #[.string (bs x.d.id), .int .i64 (x.d.s), .int .i64 (x.d.c), .int .i64 (x.d.t), .int .i64 (x.d.n), .int .i64 (x.d.b), .slice x.va x.d.V.length x.vc, .slice x.ma x.d.M.length x.mc]] w fun e w' => e = .returned (.bool (hasV K x.d.t x.d.n x.d.s x.d.c)) ∧ Gr w w' := by
 refine enter (N := 17) Tryz.func91 rfl rfl rfl (fun E ok0 r => ?_)
 have J : E.eval (.tmp 0) = .slice ka K.length kc := r 0 _ rfl
 have L : E.eval (.tmp 1) = .agg #[.string (bs x.d.id), .int .i64 (x.d.s), .int .i64 (x.d.c), .int .i64 (x.d.t), .int .i64 (x.d.n), .int .i64 (x.d.b), .slice x.va x.d.V.length x.vc, .slice x.ma x.d.M.length x.mc] := r 1 _ rfl
 clear r
 have O := Gr.refl w
 refine wp_seq_k (fun K1 S => (wp_region_lit (sal (cs := #[.string (bs x.d.id), .int .i64 (x.d.s), .int .i64 (x.d.c), .int .i64 (x.d.t), .int .i64 (x.d.n), .int .i64 (x.d.b), .slice x.va x.d.V.length x.vc, .slice x.ma x.d.M.length x.mc]) ok0 rfl (wn _ rfl) rfl (o_box L) (fun ac T b3 u a => ?_))))
 have y := O.trans u.gr
 refine sw a.ok (o_as ev_const) (fun af g => ?_)
 refine wpList_nil (th_n (S _ _ (wp_seq_k (fun K9 U => (wp_region_lit (sw g.ok (o_mv (g.n (a.n J))) (fun ah h => ?_)))))))
 refine sw h.ok (o_fa (z := 2) (h.n (g.n a.at_)) Tryz.underlying106 rfl (by kernel_rfl) rfl rfl) (fun ai j => ?_)
 refine sw j.ok (o_ldA (k := 3) (cs := [.int .i64 (x.d.t), .int .i64 (x.d.n)]) j.at_ (bk_part u.bk rfl) Tryz.underlying49 rfl (by kernel_rfl)) (fun aj l => ?_)
 have W := l.n (j.n (h.n (g.n a.at_)))
 refine sw l.ok (o_fa (z := 2) W Tryz.underlying106 rfl (by kernel_rfl) rfl rfl) (fun ak o => ?_)
 refine sw o.ok (o_ldA (k := 1) (cs := [.int .i64 (x.d.s), .int .i64 (x.d.c)]) o.at_ (bk_part u.bk rfl) Tryz.underlying51 rfl (by kernel_rfl)) (fun al q => ?_)
 have X := q.n (o.n (l.n (j.n h.at_)))
 refine sc q.ok rfl (wn _ rfl) rfl (o_f3 Tryz.func61 rfl rfl rfl X (q.n (o.n l.at_)) q.at_) (phas K ka kc x.d.t x.d.n x.d.s x.d.c T hl (hv.gr y) (hm.gr y)) ?_
 rintro _ am ⟨rfl, Y⟩
 refine ⟨_, rfl, fun an F => ?_⟩
 have Z := y.trans Y
 refine sw F.ok (o_mv F.at_) (fun ao A => ?_)
 refine sw A.ok (o_ex A.at_ rfl) (fun ap B => ?_)
 refine sw B.ok (o_ex (B.n A.at_) rfl) (fun aq C => ?_)
 refine sw C.ok (o_as (C.n B.at_)) (fun ar D => ?_)
 refine sw D.ok (o_as (D.n C.at_)) (fun au G => ?_)
 refine wpList_nil (th_n (U _ _ (wp_seq_k (fun av aa => (wp_region_lit (sw G.ok (o_mv (G.n D.at_)) (fun ax H => ?_)))))))
 refine sw H.ok (o_as H.at_) (fun ay I => ?_)
 refine wpList_nil (th_n (aa _ _ (wp_ret (ret1 I.ok rfl (I.at_) ⟨rfl, Z⟩))))
theorem only_k (K : List VerI) (va : Option Addr) (vc : Nat) (f : FuncId) (caps : List Value) (p : VerI → Bool) (hf : FnOk Tryz.prog f) (hl : K.length ≤ 1000) (hok : ∀ x ∈ K, okVr x) (w : World) (hv : RdA encVr 8 w va K) (hm : MeansV w K) (hc : ∀ x ∈ K, ∀ w1, Gr w w1 → Calls Tryz.prog f (.agg #[.string (bs x.d.id), .int .i64 (x.d.s), .int .i64 (x.d.c), .int .i64 (x.d.t), .int .i64 (x.d.n), .int .i64 (x.d.b), .slice x.va x.d.V.length x.vc, .slice x.ma x.d.M.length x.mc] :: caps).toArray w1 fun e w2 => e = .returned (.bool (p x)) ∧ Gr w1 w2) :
  Calls Tryz.prog 71 #[.slice va K.length vc, .func (.func f) #[] caps.toArray] w fun e w' => ∃ v : Value, e = .returned v ∧ ResV w.heap.size w' v ((K.filter p).map VerI.d) ∧ Gr w w' := by
 refine enter (N := 31) Tryz.func71 rfl rfl rfl (fun a0 ok0 h0 => ?_)
 have a8 : a0.eval (.tmp 0) = .slice va K.length vc := h0 0 _ rfl
 have a9 : a0.eval (.tmp 1) = .func (.func f) #[] caps.toArray := h0 1 _ rfl
 clear h0
 have G0 := Gr.refl w
 obtain ⟨base, z1⟩ : ∃ n, n = w.heap.size := ⟨_, rfl⟩
 have l2 : w.heap.size ≤ base := by rw [z1]; exact G0.size
 have z3 : base ≤ w.heap.size := Nat.le_of_eq z1
 have O4 := World.ownsRow_nil w base 106 8
 have hps : OwnsVr base w ([] : List VerI) := fun x hx => by cases hx
 refine wp_seq_k (fun K5 bd => (wp_region_lit (sw ok0 (o_as ev_const) (fun cp n6 => ?_))))
 refine wpList_nil (th_n (bd _ _ (wp_seq_k (fun K7 bf => (wp_region_lit (sw n6.ok (o_as ev_const) (fun cr n8 => ?_)))))))
 refine wpList_nil (th_n (bf _ _ (wp_seq_k (fun K9 bg => (wp_seq_k (fun cu bh => (wp_region_lit (sw n8.ok (o_mv (n8.n (n6.n a8))) (fun cx ab => ?_)))))))))
 refine sw ab.ok (o_len ab.at_ Tryz.underlying41) (fun cy ac => ?_)
 refine sw ac.ok (o_mv ev_const) (fun cz T => ?_)
 refine wpList_nil (th_n (bh _ _ (wp_block ?_)))
 have bi := T.n (ac.n (ab.n (n8.n (n6.n a9))))
 have bj := T.n (ac.n (ab.n (n8.n n6.at_)))
 have bl := T.n (ac.n (ab.n n8.at_))
 refine lp (fun (nL : Nat) (aL : Act) (wL : World) => ∃ i : Nat, ∃ R : List VerI, ∃ ra : Option Addr, ∃ rc : Nat, nL = K.length - i ∧ Ok 31 aL ∧ Gr w wL ∧ (aL.eval (.tmp 1) = .func (.func f) #[] caps.toArray) ∧ (aL.eval (.tmp 4) = .slice none 0 0) ∧ (aL.eval (.tmp 5) = .slice ra (R.length) rc) ∧ (aL.eval (.tmp 8) = .slice va K.length vc) ∧ (aL.eval (.tmp 9) = .int .i64 ((K.length : Nat) : Int)) ∧ (aL.eval (.tmp 10) = .int .i64 (i : Int)) ∧ (OwnsVr base wL R) ∧ (World.ownsRow wL base 106 8 (.slice ra (R.length) rc) (R.length) ((flatE encVr R))) ∧ (base ≤ wL.heap.size) ∧ (i ≤ K.length) ∧ (R.map VerI.d = ((K.take i).filter p).map VerI.d)) _ ⟨0, [], none, 0, rfl, T.ok, G0, bi, bj, bl, (T.n (ac.n ab.at_)), (T.n ac.at_), T.at_, hps, O4, z3, by omega, rfl⟩ ?_
 rintro cA cB cC ⟨i, R, ra, rc, hmI14, okI14, GI14, bm, aG, ar, au, av, am, fpsI14, orI14, zbaseI14, hiI14, hRI14⟩ KI14 hKI14
 have hRlI14 : R.length ≤ i := by
  have h1 := congrArg List.length hRI14
  rw [List.length_map, List.length_map] at h1
  have h2 := List.length_filter_le p (K.take i)
  rw [List.length_take] at h2
  omega
 refine wp_seq_k (fun cD bp => (wp_region_lit (sw okI14 (o_ltI am av) (fun cE a => ?_))))
 refine wpList_nil (th_n (bp _ _ (wp_seq_k (fun cF bq => ?_))))
 by_cases aH : (i : Int) < ((K.length : Nat) : Int)
 ·refine wp_cond_true ((a.at_).trans (congrArg Value.bool (decide_eq_true aH))) ?_
  refine wp_skip (th_n (bq _ _ (wp_seq_k (fun cG aI => (wp_block (wp_seq_k (fun cH br => (wp_region_lit ?_))))))))
  have ax : i < List.length K := by omega
  obtain ⟨bh27, fh27, bt, bu, bv⟩ := hv (ne_nil_of_lt ax)
  obtain ⟨xh27, ad⟩ : ∃ x, (K)[i]? = some x := ⟨_, List.getElem?_eq_getElem ax⟩
  refine sw a.ok (o_iaV (i := i) (s := 8) bt (a.n au) (a.n am) Tryz.underlying41 (by kernel_rfl) ax) (fun cI y => ?_)
  refine sw y.ok (o_ldA (k := fh27 + i * 8) y.at_ (cs := [.string (bs xh27.d.id), .int .i64 (xh27.d.s), .int .i64 (xh27.d.c), .int .i64 (xh27.d.t), .int .i64 (xh27.d.n), .int .i64 (xh27.d.b), .slice xh27.va xh27.d.V.length xh27.vc, .slice xh27.ma xh27.d.M.length xh27.mc]) (fun j v hv => (Below.cell GI14 bu).trans (bv _ _ ad j v hv)) Tryz.underlying106 rfl (by kernel_rfl)) (fun cJ A => ?_)
  refine sal (cs := #[.string (bs []), .int .i64 0, .int .i64 0, .int .i64 0, .int .i64 0, .int .i64 0, .slice none 0 0, .slice none 0 0]) A.ok rfl (wn _ rfl) rfl (o_al (z := .agg #[.string (bs []), .int .i64 0, .int .i64 0, .int .i64 0, .int .i64 0, .int .i64 0, .slice none 0 0, .slice none 0 0]) (by kernel_rfl)) (fun cK cL aJ F l => ?_)
  have aK : w.heap.size ≤ aJ := by rw [F.eq]; exact GI14.size
  have aM : ∀ k, Value.ownBlock (.slice ra (R.length) rc) = some k → k < aJ := fun k e => by rw [F.eq]; exact ow_in orI14 k e
  have bx := GI14.trans F.gr
  have bz := Nat.le_trans zbaseI14 F.gr.size
  have bA := ow_gr orI14 F.gr
  have bB := fpsI14.tk (tks_gr F.gr)
  refine ssR rfl (wn _ rfl) (o_stR l.at_ (l.n A.at_) F.bk (by kernel_rfl) rfl (by simp [Value.oneCell'])) F.bk (fun ay an aO => ?_)
  have aS : Gr w ay := Below.upd bx aK an
  have bC : base ≤ ay.heap.size := by rw [an.size]; exact bz
  have bD := ow_upd_ne bA an aM
  have bE := bB.tk (tks_upd an F.bk (by decide))
  refine wpList_nil (th_n (br _ _ (wp_seq_k (fun cM bF => (wp_region_lit ?_)))))
  have az := l.n (A.n (y.n (a.n bm)))
  refine sw l.ok (o_mv az) (fun cO o => ?_)
  refine sw o.ok (o_ldR (o.n l.at_) aO Tryz.underlying106 rfl (by kernel_rfl)) (fun cS q => ?_)
  refine sc q.ok rfl (wn _ rfl) rfl (o_fv1 (caps := caps) hf (q.n o.at_) q.at_) (hc _ (List.mem_of_getElem? ad) ay aS) ?_
  rintro _ bG ⟨rfl, ah⟩
  refine ⟨_, rfl, fun cT g => ?_⟩
  have aA := aS.trans ah
  have aT := aO.gr ah
  have aB := Nat.le_trans bC ah.size
  have aU := ow_gr bD ah
  have aV := bE.tk (tks_gr ah)
  refine wpList_nil (th_n (bF _ _ ?_))
  cases ao : (p xh27)
  ·refine wp_cond_false ((g.at_).trans (congrArg Value.bool (ao))) ?_
   refine wp_skip (ib_n (th_n (aI _ _ (wp_region_lit ?_))))
   have bH := g.n (q.n (o.n (l.n (A.n (y.n (a.n am))))))
   refine sw g.ok (o_add (r := ((i + 1 : Nat) : Int)) bH ev_const (by omega) (by omega)) (fun cU U => ?_)
   refine sw U.ok (o_mv U.at_) (fun cV W => ?_)
   refine wpList_nil ?_
   have bI := W.n (U.n (g.n (q.n (o.n az))))
   have bJ := W.n (U.n (g.n (q.n (o.n (l.n (A.n (y.n (a.n aG))))))))
   have bK := W.n (U.n (g.n (q.n (o.n (l.n (A.n (y.n (a.n ar))))))))
   have bL := W.n (U.n (g.n (q.n (o.n (l.n (A.n (y.n (a.n au))))))))
   have bM := W.n (U.n (g.n (q.n (o.n (l.n (A.n (y.n (a.n av))))))))
   exact th_n (hKI14 _ _ _ (by omega) ⟨i + 1, R, ra, rc, rfl, W.ok, aA, bI, bJ, bK, bL, bM, W.at_, aV, aU, aB, by omega, (by rw [hRI14, List.take_add_one, ad, List.filter_append]; simp [ao])⟩)
  ·refine wp_cond_true ((g.at_).trans (congrArg Value.bool (ao))) ?_
   refine wp_seq_k (fun cW bO => (wp_region_lit ?_))
   have aW := g.n (q.n (o.n l.at_))
   refine sw g.ok (o_fa (z := 2) aW Tryz.underlying106 rfl (by kernel_rfl) rfl rfl) (fun cX G => ?_)
   refine sw G.ok (o_ldA (k := 6) (cs := [.slice xh27.va xh27.d.V.length xh27.vc, .slice xh27.ma xh27.d.M.length xh27.mc]) G.at_ (bk_part aT rfl) Tryz.underlying75 rfl (by kernel_rfl)) (fun cY H => ?_)
   refine sw H.ok (o_b0 (cs := #[.slice none 0 0, .slice none 0 0]) Tryz.underlying75 (by kernel_rfl) (by kernel_rfl)) (fun cZ B => ?_)
   refine sc B.ok rfl (wn _ rfl) rfl (o_f2 Tryz.func127 rfl rfl rfl (B.n H.at_) B.at_) (kclone _ xh27.d.V xh27.d.M bG ((hm _ (List.mem_of_getElem? ad)).gr aA) (chkOne_zero (hok _ (List.mem_of_getElem? ad))).2.2.1) ?_
   rintro _ c0 ⟨va1, vc1, ma1, mc1, rfl, hk1, ai⟩
   have hk2 := ow1_le hk1 aB
   refine ⟨_, rfl, fun c1 I => ?_⟩
   have bS := aA.trans ai
   have aC := aT.gr ai
   have bT := Nat.le_trans aB ai.size
   have bU := ow_gr aU ai
   have bV := aV.tk (tks_gr ai)
   refine sw I.ok (o_mv I.at_) (fun c2 C => ?_)
   refine sw C.ok (o_ex C.at_ rfl) (fun c3 D => ?_)
   refine sw D.ok (o_ex (D.n C.at_) rfl) (fun c4 J => ?_)
   have aX := J.n (D.n (C.n (I.n (B.n (H.n (G.n aW))))))
   refine sw J.ok (o_fa (z := 2) aX Tryz.underlying106 rfl (by kernel_rfl) rfl rfl) (fun c5 E => ?_)
   refine ssP (vs := [.slice va1 xh27.d.V.length vc1, .slice ma1 xh27.d.M.length mc1]) (cs' := #[.string (bs xh27.d.id), .int .i64 (xh27.d.s), .int .i64 (xh27.d.c), .int .i64 (xh27.d.t), .int .i64 (xh27.d.n), .int .i64 (xh27.d.b), .slice va1 xh27.d.V.length vc1, .slice ma1 xh27.d.M.length mc1]) (wn _ rfl) E.at_ (E.n (J.n D.at_)) (by kernel_rfl) aC rfl (by simp [Value.oneCell']) rfl (fun aY aj bW => ?_)
   have bX : Gr w aY := Below.upd bS aK aj
   have bY : base ≤ aY.heap.size := by rw [aj.size]; exact bT
   have bZ := ow_upd_ne bU aj aM
   have b0 := bV.tk (tks_upd aj aC (by decide))
   have b1 := ow1_tk hk2 (tks_upd aj aC (by decide))
   refine wpList_nil (th_n (bO _ _ (wp_region_lit ?_)))
   have b2 := E.n (J.n (D.n (C.n (I.n (B.n (H.n (G.n (g.n (q.n (o.n (l.n (A.n (y.n (a.n ar))))))))))))))
   refine sw E.ok (o_mv b2) (fun c6 L => ?_)
   refine sw L.ok (o_ldR (L.n (E.n aX)) bW Tryz.underlying106 rfl (by kernel_rfl)) (fun c7 O => ?_)
   obtain ⟨c8, b3, b4, aD⟩ := info3_of (show (Tryz.prog.info? 106).map (fun i => (i.zero, i.size)) = some (some (.agg #[.string (bs []), .int .i64 0, .int .i64 0, .int .i64 0, .int .i64 0, .int .i64 0, .slice none 0 0, .slice none 0 0]), 8) by kernel_rfl)
   refine sals (cs := #[.string (bs xh27.d.id), .int .i64 (xh27.d.s), .int .i64 (xh27.d.c), .int .i64 (xh27.d.t), .int .i64 (xh27.d.n), .int .i64 (xh27.d.b), .slice va1 xh27.d.V.length vc1, .slice ma1 xh27.d.M.length mc1]) O.ok rfl (wn _ rfl) rfl (o_bs (vs := [(0, .agg #[.string (bs xh27.d.id), .int .i64 (xh27.d.s), .int .i64 (xh27.d.c), .int .i64 (xh27.d.t), .int .i64 (xh27.d.n), .int .i64 (xh27.d.b), .slice va1 xh27.d.V.length vc1, .slice ma1 xh27.d.M.length mc1])]) (by simp [O.at_, ev_const]) Tryz.underlying41 b3 b4 (by rw [aD]; rfl) (by rw [aD]; rfl) (by rw [aD]; kernel_rfl)) (fun c9 da db af S => ?_)
   have b5 := bX.trans af.gr
   have aZ := Nat.le_trans bY af.gr.size
   have ap := ow_gr bZ af.gr
   have b6 := b0.tk (tks_gr af.gr)
   have b7 := ow1_tk b1 (tks_gr af.gr)
   obtain ⟨y1, hy1⟩ : ∃ y1 : VerI, y1 = ⟨xh27.d, va1, vc1, ma1, mc1⟩ := ⟨_, rfl⟩
   obtain ⟨dc, b8, b9, ca, cb⟩ := info_of (show (Tryz.prog.info? 106).map (fun i => (i.zero, i.size, i.bytes)) = some (some (.agg #[.string (bs []), .int .i64 0, .int .i64 0, .int .i64 0, .int .i64 0, .int .i64 0, .slice none 0 0, .slice none 0 0]), 8, 104) by kernel_rfl)
   refine s_app (base := base) (n := R.length) (xs := (flatE encVr R)) (m := 1) (news := encVr y1) S.ok (wn _ rfl) rfl Tryz.underlying41 b8 b9 ca cb rfl (by omega) (S.n (O.n L.at_)) ap S.at_ rfl ((fun j u hu => by rw [add_n]; exact bk_part (by subst hy1; exact af.bk) (k := 0) rfl j u (by subst hy1; exact hu))) (encVr_ok.one y1) (by simp only [maxLen]; omega) (by omega) aZ (fun dd a1 df a2 gg116 X => ?_)
   obtain ⟨a3, a4, rfl, dg⟩ := ow_form a2
   have cc := Gr.grown b5 gg116 (fun k e => Nat.le_trans l2 (ow_lt ap k e))
   have cd := Nat.le_trans aZ gg116.size
   have cf := b6.tk (tks_grown ap gg116 (by decide))
   have cg := ow1_tk b7 (tks_grown ap gg116 (by decide))
   have ch : a1.ownsRow base 106 8 (.slice a3 ((R.length + 1)) a4) ((R.length + 1)) ((flatE encVr (R ++ [y1]))) := by have h := a2; rw [← flatE_one (enc := encVr) y1, ← flatE_app] at h; exact h
   have hps124 : OwnsVr base a1 (R ++ [y1]) := cf.snoc (by rw [hy1]; exact cg)
   refine sw X.ok (o_as X.at_) (fun dh Y => ?_)
   refine wpList_nil (ib_n (th_n (aI _ _ (wp_region_lit ?_))))
   have ci := Y.n (X.n (S.n (O.n (L.n (E.n (J.n (D.n (C.n (I.n (B.n (H.n (G.n (g.n (q.n (o.n (l.n (A.n (y.n (a.n am)))))))))))))))))))
   refine sw Y.ok (o_add (r := ((i + 1 : Nat) : Int)) ci ev_const (by omega) (by omega)) (fun di Z => ?_)
   refine sw Z.ok (o_mv Z.at_) (fun dj aa => ?_)
   refine wpList_nil ?_
   have cj := aa.n (Z.n (Y.n (X.n (S.n (O.n (L.n (E.n (J.n (D.n (C.n (I.n (B.n (H.n (G.n (g.n (q.n (o.n az)))))))))))))))))
   have ck := aa.n (Z.n (Y.n (X.n (S.n (O.n (L.n (E.n (J.n (D.n (C.n (I.n (B.n (H.n (G.n (g.n (q.n (o.n (l.n (A.n (y.n (a.n aG)))))))))))))))))))))
   have cl := aa.n (Z.n (Y.n (X.n (S.n (O.n (L.n (E.n (J.n (D.n (C.n (I.n (B.n (H.n (G.n (g.n (q.n (o.n (l.n (A.n (y.n (a.n au)))))))))))))))))))))
   have cm := aa.n (Z.n (Y.n (X.n (S.n (O.n (L.n (E.n (J.n (D.n (C.n (I.n (B.n (H.n (G.n (g.n (q.n (o.n (l.n (A.n (y.n (a.n av)))))))))))))))))))))
   exact th_n (hKI14 _ _ _ (by omega) ⟨i + 1, R ++ [y1], a3, a4, rfl, aa.ok, cc, cj, ck, (by simpa using (aa.n (Z.n Y.at_))), cl, cm, aa.at_, hps124, (by simpa using ch), cd, by omega, (by rw [List.map_append, hRI14, List.take_add_one, ad, List.filter_append, List.map_append]; simp [ao, hy1])⟩)
 ·refine wp_cond_false ((a.at_).trans (congrArg Value.bool (decide_eq_false aH))) ?_
  refine wp_exit (th_x (th_x (ib_x (th_n (bg _ _ (wp_seq_k (fun dk cn => (wp_region_lit (sw a.ok (o_mv (a.n ar)) (fun dl a6 => ?_))))))))))
  refine sw a6.ok (o_as a6.at_) (fun dm a7 => ?_)
  refine wpList_nil (th_n (cn _ _ (wp_ret (ret1 a7.ok rfl (a7.at_) ⟨_, rfl, ⟨R, by rw [hRI14, List.take_of_length_le (by omega)], z1 ▸ orI14, z1 ▸ fpsI14⟩, GI14⟩))))
theorem only_any (u : Value) (L : List VerD) (f : FuncId) (caps : List Value) (q : VerD → Bool) (base : Nat) (w : World) (hf : FnOk Tryz.prog f) (hL : OkS L) (hu : ResV base w u L)
    (hc : ∀ x : VerI, x.d ∈ L → ∀ w1, Gr w w1 → Calls Tryz.prog f (.agg #[.string (bs x.d.id), .int .i64 (x.d.s), .int .i64 (x.d.c), .int .i64 (x.d.t), .int .i64 (x.d.n), .int .i64 (x.d.b), .slice x.va x.d.V.length x.vc, .slice x.ma x.d.M.length x.mc] :: caps).toArray w1 fun e w2 => e = .returned (.bool (q x.d)) ∧ Gr w1 w2) :
    Calls Tryz.prog 71 #[u, .func (.func f) #[] caps.toArray] w fun e w' => ∃ a n c, e = .returned (.slice a n c) ∧ ResV w.heap.size w' (.slice a n c) (L.filter q) ∧ n = (L.filter q).length ∧ Gr w w' := by
  obtain ⟨K, a, c, rfl, hK, -, -, hr, hm⟩ := hu.rd
  have hl : K.length ≤ 60 := by have := hL.len; rw [← hK, List.length_map] at this; exact this
  refine (only_k K a c f caps (fun x => q x.d) hf (by omega) (fun x hx => hL.one _ (by rw [← hK]; exact List.mem_map_of_mem hx)) w hr hm (fun x hx w1 g => hc x (by rw [← hK]; exact List.mem_map_of_mem hx) w1 g)).mono ?_
  rintro e w' ⟨v, rfl, h, g⟩
  have e1 : (K.filter fun x => q x.d).map VerI.d = L.filter q := by rw [← hK, List.filter_map]; rfl
  rw [e1] at h
  have h' := h
  obtain ⟨R, h1, h2, h3⟩ := h'
  obtain ⟨a, c, rfl, -⟩ := ow_form h2
  exact ⟨a, _, c, rfl, h, by rw [← h1, List.length_map], g⟩
theorem shelf1_any (x : VerI) (w : World) :
  Calls Tryz.prog 106 #[.agg #[.string (bs x.d.id), .int .i64 (x.d.s), .int .i64 (x.d.c), .int .i64 (x.d.t), .int .i64 (x.d.n), .int .i64 (x.d.b), .slice x.va x.d.V.length x.vc, .slice x.ma x.d.M.length x.mc]] w fun e w' => e = .returned (.bool true) ∧ Gr w w' := by
 refine enter (N := 3) Tryz.func106 rfl rfl rfl (fun l ok0 a => ?_)
 have o : l.eval (.tmp 0) = .agg #[.string (bs x.d.id), .int .i64 (x.d.s), .int .i64 (x.d.c), .int .i64 (x.d.t), .int .i64 (x.d.n), .int .i64 (x.d.b), .slice x.va x.d.V.length x.vc, .slice x.ma x.d.M.length x.mc] := a 0 _ rfl
 clear a
 have g := Gr.refl w
 refine wp_seq_k (fun B q => (wp_region_lit (sal (cs := #[.string (bs x.d.id), .int .i64 (x.d.s), .int .i64 (x.d.c), .int .i64 (x.d.t), .int .i64 (x.d.n), .int .i64 (x.d.b), .slice x.va x.d.V.length x.vc, .slice x.ma x.d.M.length x.mc]) ok0 rfl (wn _ rfl) rfl (o_box o) (fun C D r h u => ?_))))
 have E : w.heap.size ≤ r := by rw [h.eq]; exact g.size
 have y := g.trans h.gr
 refine sw u.ok (o_as ev_const) (fun F z => ?_)
 refine wpList_nil (th_n (q _ _ (wp_seq_k (fun G A => (wp_region_lit (sw z.ok (o_as ev_const) (fun H j => ?_)))))))
 refine wpList_nil (th_n (A _ _ (wp_ret (ret1 j.ok rfl (j.at_) ⟨rfl, y⟩))))
theorem ownDots_k (b me made stamp : Nat) (fa sa la : Option Addr) (fn fc sn sc ln lc : Nat) (hme : me < 5) (hmd : made ≤ 1000) (w : World) (hb : Bk w b #[.int .i64 (me : Int), .int .i64 (made : Int), .int .i64 (stamp : Int), .slice fa fn fc, .slice sa sn sc, .slice la ln lc] 125) :
  Calls Tryz.prog 107 #[.pointer (some ⟨b, 0, none⟩)] w fun e w' => ∃ (a : Option Addr) (c : Nat) (a' : Option Addr) (c' : Nat), e = .returned (.agg #[.slice a (ints (ownV me made)).length c, .slice a' 0 c']) ∧ KnR w' (.agg #[.slice a (ints (ownV me made)).length c, .slice a' 0 c']) (ints (ownV me made)) [] ∧ Gr w w' := by
 refine enter (N := 28) Tryz.func107 rfl rfl rfl (fun a0 ok0 U => ?_)
 have V : a0.eval (.tmp 0) = .pointer (some ⟨b, 0, none⟩) := U 0 _ rfl
 clear U
 have W := Gr.refl w
 refine wp_seq_k (fun K1 an => (wp_region_lit (sal (cs := #[.slice none 0 0, .slice none 0 0]) ok0 rfl (wn _ rfl) rfl (o_al (z := .agg #[.slice none 0 0, .slice none 0 0]) (by kernel_rfl)) (fun a6 w4 X j t => ?_))))
 have Y : w.heap.size ≤ X := by rw [j.eq]; exact W.size
 have J := W.trans j.gr
 have K := hb.gr j.gr
 refine wpList_nil (th_n (an _ _ (wp_seq_k (fun a8 ao => (wp_seq_k (fun a9 ap => (wp_region_lit (sw t.ok (o_mv (t.n V)) (fun ba u => ?_)))))))))
 refine sw u.ok (o_nc u.at_) (fun bb y => ?_)
 refine sw y.ok (o_fa (z := 1) y.at_ Tryz.underlying125 rfl (by kernel_rfl) rfl rfl) (fun bc A => ?_)
 refine sw A.ok (o_ld A.at_ (Tryz.isAgg3 _) (K.cell _ rfl)) (fun bd B => ?_)
 refine sw B.ok (o_eqI B.at_ ev_const) (fun bf l => ?_)
 refine wpList_nil (th_n (ap _ _ ?_))
 by_cases Z : (made : Int) = 0
 ·refine wp_cond_true ((l.at_).trans (congrArg Value.bool (decide_eq_true Z))) ?_
  refine wp_seq_k (fun bg aq => (wp_region_lit (sw l.ok (o_b0 (cs := #[.slice none 0 0, .slice none 0 0]) Tryz.underlying75 (by kernel_rfl) (by kernel_rfl)) (fun bh M => ?_))))
  have aa := M.n (l.n (B.n (A.n (y.n (u.n t.at_)))))
  refine ssR rfl (wn _ rfl) (o_stR aa M.at_ j.bk (by kernel_rfl) rfl (by simp [Value.oneCell'])) j.bk (fun ar au av => ?_)
  have ax : Gr w ar := Below.upd J Y au
  refine wpList_nil (th_n (aq _ _ (wp_ret (th_r (ret1 M.ok rfl (⟨_, _, aa, ld_row av Tryz.underlying75 rfl (by kernel_rfl)⟩) ⟨none, 0, none, 0, by unfold ownV; rw [if_pos (by omega)]; rfl, by unfold ownV; rw [if_pos (by omega)]; exact knR_nil _, ax⟩)))))
 ·refine wp_cond_false ((l.at_).trans (congrArg Value.bool (decide_eq_false Z))) ?_
  refine wp_skip (th_n (ao _ _ (wp_seq_k (fun bi ay => (wp_region_lit ?_)))))
  have ab := l.n (B.n (A.n (y.n (u.n (t.n V)))))
  refine sw l.ok (o_mv ab) (fun bj E => ?_)
  refine sw E.ok (o_nc E.at_) (fun bl F => ?_)
  refine sw F.ok (o_fa (z := 1) F.at_ Tryz.underlying125 rfl (by kernel_rfl) rfl rfl) (fun bm G => ?_)
  refine sw G.ok (o_ld G.at_ (Tryz.isAgg3 _) (K.cell _ rfl)) (fun bn H => ?_)
  refine sw H.ok (o_add (r := ((me + 1 : Nat) : Int)) H.at_ ev_const (by omega) (by omega)) (fun bo C => ?_)
  skip
  refine sals (cs := zv (me + 1)) C.ok rfl (wn _ rfl) rfl (o_mkI (n := me + 1) (by omega) ((C.at_).trans (by simp)) ((C.at_).trans (by simp))) (fun bp bq g o I => ?_)
  have ac : X < g := by rw [o.eq]; exact j.bk.lt
  have az : w.heap.size ≤ g := by rw [o.eq]; exact J.size
  have aA := J.trans o.gr
  have ad := K.gr o.gr
  have aB := j.bk.gr o.gr
  refine sw I.ok (o_as I.at_) (fun br D => ?_)
  refine wpList_nil (th_n (ay _ _ (wp_seq_k (fun bt aC => (reg_start (N := 28) (m := 10) (by kernel_rfl) (fun aD => ?_))))))
  have aE := aD.snoc (n' := 1) rfl (fun vJ _ => vJ = .slice (some ⟨g, 0, none⟩) (me + 1) (me + 1)) rfl (fun _ _ _ _ h => h) (fun aS wS pS => by
    exact Does.val (wn _ rfl) (o_mv ((pS.old 3 rfl).trans D.at_)) (Gr.refl _) rfl rfl)
  have af := D.n (I.n (C.n (H.n (G.n (F.n (E.n ab))))))
  have aF := aE.snoc (n' := 2) rfl (fun vJ _ => vJ = .pointer (some ⟨b, 0, none⟩)) rfl (fun _ _ _ _ h => h) (fun aS wS pS => by
    exact Does.val (wn _ rfl) (o_mv ((pS.old 0 rfl).trans af)) (Gr.refl _) rfl rfl)
  have aG := aF.snoc (n' := 3) rfl (fun vJ _ => vJ = .pointer (some ⟨b, 0, none⟩)) rfl (fun _ _ _ _ h => h) (fun aS wS pS => by
    have eR44_1 : aS.eval (.tmp 17) = .pointer (some ⟨b, 0, none⟩) := pS.pre 1 rfl
    exact Does.val (wn _ rfl) (o_nc (eR44_1)) (Gr.refl _) rfl rfl)
  have aH := aG.snoc (n' := 4) rfl (fun vJ _ => vJ = .pointer (some ⟨b, 0, none⟩)) rfl (fun _ _ _ _ h => h) (fun aS wS pS => by
    have eR44_2 : aS.eval (.tmp 18) = .pointer (some ⟨b, 0, none⟩) := pS.pre 2 rfl
    exact Does.val (wn _ rfl) (o_fa (z := 1) (eR44_2) Tryz.underlying125 rfl (by kernel_rfl) rfl rfl) (Gr.refl _) rfl rfl)
  have aI := aH.snoc (n' := 5) rfl (fun vJ _ => vJ = .int .i64 (me : Int)) rfl (fun _ _ _ _ h => h) (fun aS wS pS => by
    have eR44_3 : aS.eval (.tmp 19) = .pointer (some ⟨b, 0, none⟩) := pS.pre 3 rfl
    exact Does.val (wn _ rfl) (o_ld (eR44_3) (Tryz.isAgg3 _) ((Bk.gr ad (gr_drew pS.gr)).cell _ rfl)) (Gr.refl _) rfl rfl)
  have aJ := aI.snoc (n' := 6) rfl (fun vJ _ => vJ = .pointer (some ⟨b, 0, none⟩)) rfl (fun _ _ _ _ h => h) (fun aS wS pS => by
    exact Does.val (wn _ rfl) (o_mv ((pS.old 0 rfl).trans af)) (Gr.refl _) rfl rfl)
  have aK := aJ.snoc (n' := 7) rfl (fun vJ _ => vJ = .pointer (some ⟨b, 0, none⟩)) rfl (fun _ _ _ _ h => h) (fun aS wS pS => by
    have eR44_5 : aS.eval (.tmp 21) = .pointer (some ⟨b, 0, none⟩) := pS.pre 5 rfl
    exact Does.val (wn _ rfl) (o_nc (eR44_5)) (Gr.refl _) rfl rfl)
  have aL := aK.snoc (n' := 8) rfl (fun vJ _ => vJ = .pointer (some ⟨b, 1, none⟩)) rfl (fun _ _ _ _ h => h) (fun aS wS pS => by
    have eR44_6 : aS.eval (.tmp 22) = .pointer (some ⟨b, 0, none⟩) := pS.pre 6 rfl
    exact Does.val (wn _ rfl) (o_fa (z := 1) (eR44_6) Tryz.underlying125 rfl (by kernel_rfl) rfl rfl) (Gr.refl _) rfl rfl)
  have aM := aL.snoc (n' := 9) rfl (fun vJ _ => vJ = .int .i64 (made : Int)) rfl (fun _ _ _ _ h => h) (fun aS wS pS => by
    have eR44_7 : aS.eval (.tmp 23) = .pointer (some ⟨b, 1, none⟩) := pS.pre 7 rfl
    exact Does.val (wn _ rfl) (o_ld (eR44_7) (Tryz.isAgg3 _) ((Bk.gr ad (gr_drew pS.gr)).cell _ rfl)) (Gr.refl _) rfl rfl)
  have aO := aM.snoc (n' := 10) rfl (fun vJ _ => vJ = .pointer (some ⟨g, 0 + me * 1, none⟩)) rfl (fun _ _ _ _ h => h) (fun aS wS pS => by
    have eR44_0 : aS.eval (.tmp 16) = .slice (some ⟨g, 0, none⟩) (me + 1) (me + 1) := pS.pre 0 rfl
    have eR44_4 : aS.eval (.tmp 20) = .int .i64 (me : Int) := pS.pre 4 rfl
    exact Does.val (wn _ rfl) (o_ia (i := me) (s := 1) (eR44_0) (eR44_4) Tryz.underlying45 (by kernel_rfl) (by omega)) (Gr.refl _) rfl rfl)
  refine aO.run (k := 1) (L := #[true, true, true, true, true, true, true, true, true, true, false]) (by kernel_rfl) (by kernel_rfl) (by kernel_rfl) D.ok (by kernel_rfl) (by kernel_rfl) (fun ap47 bu q => ?_)
  have O := gr_drew q.gr
  have aT := aA.trans O
  have aU := aB.gr O
  have ag := o.bk.gr O
  have ep47_9 : ap47.eval (.tmp 25) = .pointer (some ⟨g, 0 + me * 1, none⟩) := q.js 9 rfl
  have ep47_8 : ap47.eval (.tmp 24) = .int .i64 (made : Int) := q.js 8 rfl
  refine t_stC (i := 10) (by kernel_rfl) rfl rfl (wn _ rfl) (o_st ep47_9 ep47_8 ag (zv_at (n := me + 1) (k := 0 + me * 1) (by omega)) (by kernel_rfl) rfl) ag (fun ah ai aV => ?_)
  have aW : Gr w ah := Below.upd aT az ai
  have aj := aU.upd ai (Nat.ne_of_lt ac)
  have aX : Bk ah g (ovA me made) 3 := (by have h := aV; rw [show 0 + me * 1 = me by omega, zv_set] at h; exact h)
  refine wpAny_done (by kernel_rfl) ?_ _
  refine th_n (aC _ _ (wp_seq_k (fun bv aY => (wp_region_lit (sw q.ok (o_mv ((q.old 3 rfl).trans D.at_)) (fun bx S => ?_))))))
  refine sw S.ok (o_bd (cells := #[.slice (some ⟨g, 0, none⟩) (me + 1) (me + 1), .slice none 0 0]) (vs := [(0, .slice (some ⟨g, 0, none⟩) (me + 1) (me + 1))]) (by simp [S.at_, ev_const]) (by kernel_rfl)) (fun bz T => ?_)
  have ak := T.n (S.n ((q.old 2 rfl).trans (D.n (I.n (C.n (H.n (G.n (F.n (E.n (l.n (B.n (A.n (y.n (u.n t.at_))))))))))))))
  refine ssR rfl (wn _ rfl) (o_stR ak T.at_ aj (by kernel_rfl) rfl (by simp [Value.oneCell'])) aj (fun aZ al a1 => ?_)
  have a2 : Gr w aZ := Below.upd aW Y al
  have a3 := aX.upd al (Nat.ne_of_gt ac)
  refine wpList_nil (th_n (aY _ _ (wp_ret (ret1 T.ok rfl (⟨_, _, ak, ld_row a1 Tryz.underlying75 rfl (by kernel_rfl)⟩) ⟨some ⟨g, 0, none⟩, me + 1, none, 0, by unfold ownV; rw [if_neg (by omega)]; simp [ints], by unfold ownV; rw [if_neg (by omega)]; have h := r1_bk a3 rfl; simp only [ints, List.length_map, List.length_append, List.length_replicate, List.length_cons, List.length_nil] at h; exact ⟨_, _, rfl, by simpa [ints] using h, Rd2.nil _, ⟨rfl, by simp [flat], .inl ⟨rfl, rfl⟩⟩⟩, a2⟩))))
end Go.Proofs.YtglbnggkkjhokaaGreat
/- Site: Filter, Shelf, Made, Parts; New, Ask. -/
namespace Rm
open Go Go.RowKit Gx
end Rm
namespace Go.Proofs.YtglbnggkkjhokaaGreat
open Go.RowKit Rm Gx
structure SiOk (S : SiD) : Prop where
  me : S.me < 5
  made : S.made ≤ 1000
  st : S.stamp ≤ 1000000
  ok : OkS S.L
  few : S.P.length ≤ 29
def sees (S : SiD) (t n s c : Nat) : Bool := ownD S.me S.made s c || hasP S.P t n s c
def Sees (F : List PtX) (S : SiD) : Prop := ∀ t n s c, t < 16 → n < 32 → inR s c → hasP F t n s c = sees S t n s c
theorem PL.gr {base : Nat} {w w' : World} {v : Value} {F : List PtX} (h : PL base w v F) (g : Gr w w') : PL base w' v F := h.tkw (tkw_gr g)
theorem ResV.gr0 {base : Nat} {w w' : World} {v : Value} {L : List VerD} (h : ResV base w v L) (g : Gr w w') : ResV base w' v L := h.tkw (tkw_gr g)
theorem FO.gr0 {base n : Nat} {w w' : World} {v : Value} {T : Nat → Nat} (h : FO base n w v T) (g : Gr w w') : FO base n w' v T := h.tk (tk_gr g)
theorem FO.fs40 {base : Nat} {w : World} {v : Value} {T : Nat → Nat} (h : FO base 16 w v T) : FS w v T := h.fs.le (by decide)
theorem filt_all {α : Type} (L : List α) : (L.filter fun _ => true) = L := List.filter_eq_self.2 (fun _ _ => rfl)
theorem psjoin (K L : List PtX) (va vb : Option Addr) (vc vd : Nat) (hl : K.length + L.length ≤ 30) (hc : K.length ≤ vc) (hc2 : L.length ≤ vd) (hn : va = none → vc = 0) (hn2 : vb = none → vd = 0) (w : World) (hv : RdA encP 3 w va K) (hv2 : RdA encP 3 w vb L) (hm : MeansP w K) (hm2 : MeansP w L) :
  Calls Tryz.prog 100 #[.slice va K.length vc, .slice vb L.length vd] w fun e w' => ∃ (F : List PtX) (a : Option Addr) (c : Nat), e = .returned (.tuple #[.slice a F.length c, .int .i64 0]) ∧ F.length ≤ K.length + L.length ∧ EqP F (K ++ L) ∧ FewP F ∧ PL w.heap.size w' (.slice a F.length c) F ∧ Gr w w' := by
 refine (pjoin_ok K L va vb vc vd (by omega) (by omega) hc hc2 hn hn2 w hv hv2 hm hm2).mono ?_
 rintro e w' ⟨R, hR, hres, g⟩
 have hRl : R.length = K.length + L.length := by have := congrArg List.length hR; simpa using this
 have hF := fewP_len R
 rcases hres with ⟨h1, v, rfl, h2, h3⟩ | ⟨h1, -⟩
 ·have hOk : ∀ y ∈ R, OkT y.T := fun y hy => by
   have : y.m ∈ (K ++ L).map (nar fullT) := hR ▸ List.mem_map_of_mem hy
   obtain ⟨x, hx, e⟩ := List.mem_map.1 this
   have hT : OkT x.T := (List.mem_append.1 hx).elim (fun q => (hm x q).fs.okT) (fun q => (hm2 x q).fs.okT)
   have e1 : y.T = fun t => x.T t &&& fullT t := (congrArg Prod.fst e).symm
   rw [e1]
   exact okT_and hT
  obtain ⟨a, c, rfl, hac⟩ := ow_form h2
  exact ⟨fewP R, a, c, rfl, by omega, (fewP_has hOk).trans (full_has hR), fewP_few R, ⟨h2, h3⟩, g⟩
 ·omega
theorem own_join (S : SiD) (hS : SiOk S) (b : Nat) (fa va ma la : Option Addr) (fn fc vc mc lc : Nat) (t : TypeId) (w : World) (hb : Bk w b #[.slice fa fn fc, .slice va (ints (ownV S.me S.made)).length vc, .slice ma 0 mc] t) (hF : FS w (.slice fa fn fc) fullT)
    (hk : KnR w (.agg #[.slice va (ints (ownV S.me S.made)).length vc, .slice ma 0 mc]) (ints (ownV S.me S.made)) []) (hP : PL 0 w (.slice la S.P.length lc) S.P) :
    Calls Tryz.prog 100 #[.slice (some ⟨b, 0, none⟩) 1 1, .slice la S.P.length lc] w fun e w' => ∃ (F : List PtX) (a : Option Addr) (c : Nat), e = .returned (.tuple #[.slice a F.length c, .int .i64 0]) ∧ F.length ≤ S.P.length + 1 ∧ Sees F S ∧ FewP F ∧ PL 0 w' (.slice a F.length c) F ∧ Gr w w' := by
  obtain ⟨q1, q2⟩ := ownV_form hS.me hS.made
  obtain ⟨x, hx⟩ : ∃ x : PtX, x = ⟨fa, fn, fc, va, (ints (ownV S.me S.made)).length, vc, ma, 0, mc, fullT, ownD S.me S.made⟩ := ⟨_, rfl⟩
  have hm : MeanP w x := by
    subst hx
    refine ⟨hF, ?_, ?_⟩
    · show KnR w _ (ints (formV (ownD S.me S.made))) (pairs (formM (ownD S.me S.made)))
      rw [q1, q2]
      exact hk
    · show (formM (ownD S.me S.made)).length ≤ 60
      rw [q2]; simp
  have hr : RdA encP 3 w (some ⟨b, 0, none⟩) [x] := fun _ => ⟨b, 0, rfl, hb.lt, fun i y hy j u hu => by
    match i, hy with
    | 0, hy =>
      simp at hy
      subst hy
      rw [hx] at hu
      have := bk_part hb (k := 0) (l := [.slice fa fn fc, .slice va (ints (ownV S.me S.made)).length vc, .slice ma 0 mc]) rfl j u hu
      simpa using this
    | i + 1, hy => simp at hy⟩
  obtain ⟨a2, c2, e2, hc2, hn2, hr2, hm2⟩ := hP.rd
  injection e2 with e2 _ e3
  subst e2 e3
  refine (psjoin [x] S.P (some ⟨b, 0, none⟩) la 1 lc (by have := hS.few; simp; omega) (by simp) hc2 (fun q => by cases q) hn2 w hr hr2 (fun y hy => by rw [List.mem_singleton.1 hy]; exact hm) hm2).mono ?_
  rintro e w' ⟨F, a, c, rfl, h1, h2, h3, h4, g⟩
  refine ⟨F, a, c, rfl, by simpa [Nat.add_comm] using h1, fun t n s k ht hn hi => ?_, h3, h4.any, g⟩
  rw [h2 t n s k ht hn hi, hasP_app]
  have hT : (fullT t).testBit n = true := by
    unfold fullT
    rw [show (4294967295 : Nat) = 2 ^ 32 - 1 from rfl, Nat.testBit_two_pow_sub_one]
    simpa using hn
  have e1 : hasP [x] t n s k = ownD S.me S.made s k := by
    unfold hasP
    rw [List.any_cons, List.any_nil, Bool.or_false, hx]
    show ((fullT t).testBit n && ownD S.me S.made s k) = _
    rw [hT, Bool.true_and]
  unfold sees
  rw [e1]
theorem sfilter_any (b : Nat) (S : SiD) (w : World) (hS : SiteAt w b S) :
  Calls Tryz.prog 46 #[.pointer (some ⟨b, 0, none⟩)] w fun e w' => ∃ a n c, e = .returned (.slice a n c) ∧ FO 0 16 w' (.slice a n c) S.T ∧ Gr w w' := by
 refine enter (N := 14) Tryz.func46 rfl rfl rfl (fun F ok0 o => ?_)
 have G : F.eval (.tmp 0) = .pointer (some ⟨b, 0, none⟩) := o 0 _ rfl
 clear o
 have q := Gr.refl w
 obtain ⟨fa, fn, fc, sa, sn, sq, la, lc, hb, hF, hR, hP⟩ := hS
 refine wp_seq_k (fun M H => (wp_region_lit (sw ok0 (o_as ev_const) (fun O r => ?_))))
 refine wpList_nil (th_n (H _ _ (wp_seq_k (fun U I => (wp_region_lit (sw r.ok (o_mv (r.n G)) (fun V t => ?_)))))))
 refine sw t.ok (o_nc t.at_) (fun W u => ?_)
 refine sw u.ok (o_fa (z := 1) u.at_ Tryz.underlying125 rfl (by kernel_rfl) rfl rfl) (fun X y => ?_)
 refine sw y.ok (o_ld y.at_ (Tryz.isAgg22 _) (hb.cell _ rfl)) (fun Y A => ?_)
 refine sc A.ok rfl (wn _ rfl) rfl (o_f1 Tryz.func68 rfl rfl rfl A.at_) (copyf_any _ S.T w (FO.fs40 (hF.gr0 q))) ?_
 rintro _ Z ⟨ga, gn, gc, rfl, hgf, J⟩
 refine ⟨_, rfl, fun aa B => ?_⟩
 have K := q.trans J
 refine sw B.ok (o_mv B.at_) (fun ab g => ?_)
 refine sw g.ok (o_ex g.at_ rfl) (fun ac h => ?_)
 refine sw h.ok (o_ex (h.n g.at_) rfl) (fun ad j => ?_)
 refine sw j.ok (o_as (j.n h.at_)) (fun af l => ?_)
 refine sw l.ok (o_as (l.n j.at_)) (fun ag C => ?_)
 refine wpList_nil (th_n (I _ _ (wp_seq_k (fun ah L => (wp_region_lit (sw C.ok (o_mv (C.n l.at_)) (fun ai D => ?_)))))))
 refine sw D.ok (o_as D.at_) (fun aj E => ?_)
 refine wpList_nil (th_n (L _ _ (wp_ret (ret1 E.ok rfl (E.at_) ⟨ga, gn, gc, rfl, FO.any hgf, K⟩))))
theorem sshelf_any (b : Nat) (S : SiD) (hOk : OkS S.L) (w : World) (hS : SiteAt w b S) :
  Calls Tryz.prog 45 #[.pointer (some ⟨b, 0, none⟩)] w fun e w' => ∃ a n c, e = .returned (.slice a n c) ∧ ResV 0 w' (.slice a n c) S.L ∧ n = S.L.length ∧ Gr w w' := by
 refine enter (N := 8) Tryz.func45 rfl rfl rfl (fun y ok0 g => ?_)
 have A : y.eval (.tmp 0) = .pointer (some ⟨b, 0, none⟩) := g 0 _ rfl
 clear g
 have h := Gr.refl w
 obtain ⟨fa, fn, fc, sa, sn, sq, la, lc, hb, hF, hR, hP⟩ := hS
 refine wp_seq_k (fun G B => (wp_region_lit (sw ok0 (o_as ev_const) (fun H j => ?_))))
 refine wpList_nil (th_n (B _ _ (wp_seq_k (fun I C => (wp_region_lit (sw j.ok (o_mv (j.n A)) (fun J l => ?_)))))))
 refine sw l.ok (o_nc l.at_) (fun K o => ?_)
 refine sw o.ok (o_fa (z := 1) o.at_ Tryz.underlying125 rfl (by kernel_rfl) rfl rfl) (fun M q => ?_)
 refine sw q.ok (o_ld q.at_ (Tryz.isAgg41 _) (hb.cell _ rfl)) (fun O r => ?_)
 refine sc r.ok rfl (wn _ rfl) rfl (o_f2 Tryz.func71 rfl rfl rfl r.at_ ev_func) (only_any _ S.L 106 [] (fun _ => true) 0 w ⟨_, Tryz.func106, rfl, rfl⟩ hOk (hR.gr0 h) (fun x _ D T => shelf1_any x D)) ?_
 rintro _ U ⟨ra, rn, rc, rfl, hr, hn, E⟩
 refine ⟨_, rfl, fun V t => ?_⟩
 have F := h.trans E
 refine sw t.ok (o_as t.at_) (fun W u => ?_)
 refine wpList_nil (th_n (C _ _ (wp_ret (ret1 u.ok rfl (u.at_) ⟨ra, rn, rc, rfl, by rw [filt_all] at hr; exact hr.any, by rw [filt_all] at hn; exact hn, F⟩))))
theorem sparts_any (b : Nat) (S : SiD) (hO : SiOk S) (w : World) (hS : SiteAt w b S) :
  Calls Tryz.prog 47 #[.pointer (some ⟨b, 0, none⟩)] w fun e w' => ∃ (F : List PtX) (a : Option Addr) (c : Nat), e = .returned (.slice a F.length c) ∧ F.length ≤ S.P.length + 1 ∧ Sees F S ∧ FewP F ∧ PL 0 w' (.slice a F.length c) F ∧ Gr w w' := by
 refine enter (N := 21) Tryz.func47 rfl rfl rfl (fun X ok0 J => ?_)
 have K : X.eval (.tmp 0) = .pointer (some ⟨b, 0, none⟩) := J 0 _ rfl
 clear J
 have Y := Gr.refl w
 obtain ⟨fa, fn, fc, sa, sn, sq, la, lc, hb, hF, hR, hP⟩ := hS
 refine wp_seq_k (fun K3 Z => (wp_region_lit (sw ok0 (o_as ev_const) (fun ay n => ?_))))
 refine wpList_nil (th_n (Z _ _ (wp_seq_k (fun K5 aa => (wp_region_lit (sc n.ok rfl (wn _ rfl) rfl (o_f0 Tryz.func52 rfl rfl rfl ) (fevery w) ?_))))))
 rintro _ w7 ⟨ev, rfl, hev, L⟩
 obtain ⟨ea, en, ec, rfl⟩ := hev.form
 refine ⟨_, rfl, fun aA h => ?_⟩
 have G9 := Y.trans L
 have M := hb.gr L
 refine sw h.ok (o_mv (h.n (n.n K))) (fun aB j => ?_)
 refine sc j.ok rfl (wn _ rfl) rfl (o_f1 Tryz.func107 rfl rfl rfl j.at_) (ownDots_k b S.me S.made S.stamp fa sa la fn fc sn sq S.P.length lc hO.me hO.made w7 M) ?_
 rintro _ aC ⟨oa, oc, pa, pc, rfl, hok, o⟩
 refine ⟨_, rfl, fun aD l => ?_⟩
 have ad := G9.trans o
 have af := M.gr o
 have ag := hev.gr o
 refine sw l.ok (o_bd (cells := #[.slice ea en ec, .slice oa ((ints (ownV S.me S.made)).length) oc, .slice pa 0 pc]) (vs := [(0, .slice ea en ec), (1, .agg #[.slice oa ((ints (ownV S.me S.made)).length) oc, .slice pa 0 pc])]) (by simp [(l.n (j.n h.at_)), l.at_, ev_const]) (by kernel_rfl)) (fun aE q => ?_)
 obtain ⟨aF, ah, ai, r⟩ := info3_of (show (Tryz.prog.info? 151).map (fun i => (i.zero, i.size)) = some (some (.agg #[.slice none 0 0, .slice none 0 0, .slice none 0 0]), 3) by kernel_rfl)
 refine sals (cs := #[.slice ea en ec, .slice oa ((ints (ownV S.me S.made)).length) oc, .slice pa 0 pc]) q.ok rfl (wn _ rfl) rfl (o_bs (vs := [(0, .agg #[.slice ea en ec, .slice oa ((ints (ownV S.me S.made)).length) oc, .slice pa 0 pc])]) (by simp [q.at_, ev_const]) Tryz.underlying32 ah ai (by rw [r]; rfl) (by rw [r]; rfl) (by rw [r]; kernel_rfl)) (fun aG aj ak g t => ?_)
 have O := ad.trans g.gr
 have al := af.gr g.gr
 have am := ag.gr g.gr
 have an := hok.gr g.gr
 refine sw t.ok (o_as t.at_) (fun aH u => ?_)
 refine wpList_nil (th_n (aa _ _ (wp_seq_k (fun aI ao => (wp_region_lit (sw u.ok (o_mv u.at_) (fun aJ y => ?_)))))))
 have ap := y.n (u.n (t.n (q.n (l.n (j.n (h.n (n.n K)))))))
 refine sw y.ok (o_mv ap) (fun aK A => ?_)
 refine sw A.ok (o_nc A.at_) (fun aL B => ?_)
 refine sw B.ok (o_fa (z := 1) B.at_ Tryz.underlying125 rfl (by kernel_rfl) rfl rfl) (fun aM C => ?_)
 refine sw C.ok (o_ld C.at_ (Tryz.isAgg32 _) (al.cell _ rfl)) (fun aO D => ?_)
 have aq := D.n (C.n (B.n (A.n y.at_)))
 refine sc D.ok rfl (wn _ rfl) rfl (o_f2 Tryz.func100 rfl rfl rfl aq D.at_) (own_join S hO ak ea oa pa la en ec oc pc lc _ aj g.bk (am.le (by decide)) an (hP.gr O)) ?_
 rintro _ aS ⟨F, ja, jc, rfl, hFl, hFs, hFf, hFp, ar⟩
 refine ⟨_, rfl, fun aT T => ?_⟩
 have au := O.trans ar
 refine sw T.ok (o_mv T.at_) (fun aU E => ?_)
 refine sw E.ok (o_ex E.at_ rfl) (fun aV G => ?_)
 refine sw G.ok (o_ex (G.n E.at_) rfl) (fun aW H => ?_)
 refine sw H.ok (o_as (H.n G.at_)) (fun aX I => ?_)
 refine sw I.ok (o_as (I.n H.at_)) (fun aY U => ?_)
 refine wpList_nil (th_n (ao _ _ (wp_seq_k (fun aZ av => (wp_region_lit (sw U.ok (o_mv (U.n I.at_)) (fun a1 V => ?_)))))))
 refine sw V.ok (o_as V.at_) (fun a2 W => ?_)
 refine wpList_nil (th_n (av _ _ (wp_ret (ret1 W.ok rfl (W.at_) ⟨F, ja, jc, rfl, hFl, hFs, hFf, hFp, au⟩))))
theorem snew_ok (me : Nat) (hme : me < 5) (fv : Value) (T : Nat → Nat) (w : World) (hf : FS w fv T) :
  Calls Tryz.prog 15 #[.int .i64 (me : Int), fv] w fun e w' => ∃ b, e = .returned (.tuple #[.pointer (some ⟨b, 0, none⟩), .int .i64 0]) ∧ w.heap.size ≤ b ∧ SiteAt w' b ⟨me, 0, 0, T, [], []⟩ ∧ Gr w w' := by
 refine enter (N := 23) Tryz.func15 rfl rfl rfl (fun F ok0 z => ?_)
 have G : F.eval (.tmp 0) = .int .i64 (me : Int) := z 0 _ rfl
 have O : F.eval (.tmp 1) = fv := z 1 _ rfl
 clear z
 have S := Gr.refl w
 refine wp_seq_k (fun K1 U => (wp_region_lit (sw ok0 (o_as ev_const) (fun am a => ?_))))
 refine sw a.ok (o_as ev_const) (fun an c => ?_)
 refine wpList_nil (th_n (U _ _ (wp_seq_k (fun K4 V => (wp_seq_k (fun K5 W => (wp_region_lit (sw c.ok (o_mv (c.n (a.n G))) (fun aq g => ?_)))))))))
 refine sc g.ok rfl (wn _ rfl) rfl (o_f1 Tryz.func67 rfl rfl rfl g.at_) (isSite_ok me hme w) ?_
 rintro _ X ⟨rfl, Y⟩
 refine ⟨_, rfl, fun ar h => ?_⟩
 have H := S.trans Y
 refine sw h.ok (o_not h.at_ rfl) (fun au j => ?_)
 refine wpList_nil (th_n (W _ _ (wp_cond_false (j.at_) ?_)))
 refine wp_skip (th_n (V _ _ (wp_seq_k (fun av Z => (wp_region_lit ?_)))))
 have aa := j.n (h.n (g.n (c.n (a.n O))))
 refine sw j.ok (o_mv aa) (fun ax A => ?_)
 refine sc A.ok rfl (wn _ rfl) rfl (o_f1 Tryz.func68 rfl rfl rfl A.at_) (copyf_any fv T X (hf.gr H)) ?_
 rintro _ ay ⟨fa, fn, fc, rfl, hgf, ab⟩
 refine ⟨_, rfl, fun az B => ?_⟩
 have I := H.trans ab
 refine sw B.ok (o_mv B.at_) (fun aA l => ?_)
 refine sw l.ok (o_ex l.at_ rfl) (fun aB n => ?_)
 refine sw n.ok (o_ex (n.n l.at_) rfl) (fun aC o => ?_)
 refine sw o.ok (o_as (o.n n.at_)) (fun aD q => ?_)
 refine sw q.ok (o_as (q.n o.at_)) (fun aE r => ?_)
 refine wpList_nil (th_n (Z _ _ (wp_seq_k (fun aF ac => (wp_seq_k (fun aG ad => (wp_region_lit (sw r.ok (o_mv r.at_) (fun aH t => ?_)))))))))
 refine sw t.ok (o_neq (b := false) t.at_ ev_const (by decide)) (fun aI u => ?_)
 refine wpList_nil (th_n (ad _ _ (wp_cond_false (u.at_) ?_)))
 refine wp_skip (th_n (ac _ _ (wp_seq_k (fun aJ af => (wp_region_lit ?_)))))
 have ag := u.n (t.n (r.n (q.n (o.n (n.n (l.n (B.n (A.n (j.n (h.n (g.n (c.n (a.n G)))))))))))))
 refine sw u.ok (o_mv ag) (fun aK C => ?_)
 have ah := C.n (u.n (t.n (r.n q.at_)))
 refine sw C.ok (o_mv ah) (fun aL D => ?_)
 refine sw D.ok (o_bd (cells := #[.int .i64 (me : Int), .int .i64 0, .int .i64 0, .slice fa fn fc, .slice none 0 0, .slice none 0 0]) (vs := [(0, .int .i64 (me : Int)), (3, .slice fa fn fc)]) (by simp [(D.n C.at_), D.at_, ev_const]) (by kernel_rfl)) (fun aM J => ?_)
 refine sal (cs := #[.int .i64 (me : Int), .int .i64 0, .int .i64 0, .slice fa fn fc, .slice none 0 0, .slice none 0 0]) J.ok rfl (wn _ rfl) rfl (o_box J.at_) (fun aO aS K y L => ?_)
 have ai : w.heap.size ≤ K := by rw [y.eq]; exact I.size
 have aj := I.trans y.gr
 have ak := hgf.gr0 y.gr
 refine sw L.ok (o_as L.at_) (fun aT M => ?_)
 refine sw M.ok (o_as ev_const) (fun aU E => ?_)
 refine wpList_nil (th_n (af _ _ (wp_ret (ret2 E.ok rfl ((E.n M.at_)) (E.at_) ⟨K, rfl, ai, ⟨fa, fn, fc, none, 0, 0, none, 0, y.bk, ak.any, ResV.none _, PL.nil _⟩, aj⟩))))
theorem sask_any (b : Nat) (S : SiD) (hO : SiOk S) (w : World) (hS : SiteAt w b S) :
  Calls Tryz.prog 16 #[.pointer (some ⟨b, 0, none⟩)] w fun e w' => ∃ ga gn gc F ja jc, e = .returned (.agg #[.int .i64 (S.me : Int), .int .i64 (S.stamp : Int), .slice ga gn gc, .slice ja (List.length F) jc]) ∧ FO 0 16 w' (.slice ga gn gc) S.T ∧ PL 0 w' (.slice ja (List.length F) jc) F ∧ F.length ≤ S.P.length + 1 ∧ Sees F S ∧ FewP F ∧ Gr w w' := by
 refine enter (N := 16) Tryz.func16 rfl rfl rfl (fun E ok0 A => ?_)
 have l : E.eval (.tmp 0) = .pointer (some ⟨b, 0, none⟩) := A 0 _ rfl
 clear A
 have B := Gr.refl w
 have hS0 := hS
 obtain ⟨fa, fn, fc, sa, sn, sq, la, lc, hb, hF, hR, hP⟩ := hS
 refine wp_seq_k (fun K3 G => (wp_region_lit (sal (cs := #[.int .i64 0, .int .i64 0, .slice none 0 0, .slice none 0 0]) ok0 rfl (wn _ rfl) rfl (o_al (z := .agg #[.int .i64 0, .int .i64 0, .slice none 0 0, .slice none 0 0]) (by kernel_rfl)) (fun ap w6 H n a => ?_))))
 have I : w.heap.size ≤ H := by rw [n.eq]; exact B.size
 have q := B.trans n.gr
 have C := hb.gr n.gr
 refine wpList_nil (th_n (G _ _ (wp_seq_k (fun ar J => (reg_start (N := 16) (m := 13) (by kernel_rfl) (fun K => ?_))))))
 have M := K.snoc (n' := 1) rfl (fun vJ _ => vJ = .pointer (some ⟨b, 0, none⟩)) rfl (fun _ _ _ _ h => h) (fun aS wS pS => by
   exact Does.val (wn _ rfl) (o_mv ((pS.old 0 rfl).trans (a.n l))) (Gr.refl _) rfl rfl)
 have O := M.snoc (n' := 2) rfl (fun vJ _ => vJ = .pointer (some ⟨b, 0, none⟩)) rfl (fun _ _ _ _ h => h) (fun aS wS pS => by
   have eR15_0 : aS.eval (.tmp 3) = .pointer (some ⟨b, 0, none⟩) := pS.pre 0 rfl
   exact Does.val (wn _ rfl) (o_nc (eR15_0)) (Gr.refl _) rfl rfl)
 have U := O.snoc (n' := 3) rfl (fun vJ _ => vJ = .pointer (some ⟨b, 0, none⟩)) rfl (fun _ _ _ _ h => h) (fun aS wS pS => by
   have eR15_1 : aS.eval (.tmp 4) = .pointer (some ⟨b, 0, none⟩) := pS.pre 1 rfl
   exact Does.val (wn _ rfl) (o_fa (z := 1) (eR15_1) Tryz.underlying125 rfl (by kernel_rfl) rfl rfl) (Gr.refl _) rfl rfl)
 have V := U.snoc (n' := 4) rfl (fun vJ _ => vJ = .int .i64 ((S.me : Nat) : Int)) rfl (fun _ _ _ _ h => h) (fun aS wS pS => by
   have eR15_2 : aS.eval (.tmp 5) = .pointer (some ⟨b, 0, none⟩) := pS.pre 2 rfl
   exact Does.val (wn _ rfl) (o_ld (eR15_2) (Tryz.isAgg3 _) ((Bk.gr C (gr_drew pS.gr)).cell _ rfl)) (Gr.refl _) rfl rfl)
 have W := V.snoc (n' := 5) rfl (fun vJ _ => vJ = .pointer (some ⟨b, 0, none⟩)) rfl (fun _ _ _ _ h => h) (fun aS wS pS => by
   exact Does.val (wn _ rfl) (o_mv ((pS.old 0 rfl).trans (a.n l))) (Gr.refl _) rfl rfl)
 have X := W.snoc (n' := 6) rfl (fun vJ _ => vJ = .pointer (some ⟨b, 0, none⟩)) rfl (fun _ _ _ _ h => h) (fun aS wS pS => by
   have eR15_4 : aS.eval (.tmp 7) = .pointer (some ⟨b, 0, none⟩) := pS.pre 4 rfl
   exact Does.val (wn _ rfl) (o_nc (eR15_4)) (Gr.refl _) rfl rfl)
 have Y := X.snoc (n' := 7) rfl (fun vJ _ => vJ = .pointer (some ⟨b, 2, none⟩)) rfl (fun _ _ _ _ h => h) (fun aS wS pS => by
   have eR15_5 : aS.eval (.tmp 8) = .pointer (some ⟨b, 0, none⟩) := pS.pre 5 rfl
   exact Does.val (wn _ rfl) (o_fa (z := 1) (eR15_5) Tryz.underlying125 rfl (by kernel_rfl) rfl rfl) (Gr.refl _) rfl rfl)
 have Z := Y.snoc (n' := 8) rfl (fun vJ _ => vJ = .int .i64 ((S.stamp : Nat) : Int)) rfl (fun _ _ _ _ h => h) (fun aS wS pS => by
   have eR15_6 : aS.eval (.tmp 9) = .pointer (some ⟨b, 2, none⟩) := pS.pre 6 rfl
   exact Does.val (wn _ rfl) (o_ld (eR15_6) (Tryz.isAgg3 _) ((Bk.gr C (gr_drew pS.gr)).cell _ rfl)) (Gr.refl _) rfl rfl)
 have aa := Z.snoc (n' := 9) rfl (fun vJ _ => vJ = .pointer (some ⟨b, 0, none⟩)) rfl (fun _ _ _ _ h => h) (fun aS wS pS => by
   exact Does.val (wn _ rfl) (o_mv ((pS.old 0 rfl).trans (a.n l))) (Gr.refl _) rfl rfl)
 have ab := aa.snoc (n' := 10) rfl (fun vJ wJ => ∃ (ga : Option Addr) (gn : Nat) (gc : Nat), vJ = .slice ga gn gc ∧ (FO 0 16 wJ (.slice ga gn gc) S.T)) rfl (fun _ _ _ g ⟨ga, gn, gc, h, c⟩ => ⟨ga, gn, gc, h, c.gr0 g⟩) (fun aS wS pS => by
   have eR15_8 : aS.eval (.tmp 11) = .pointer (some ⟨b, 0, none⟩) := pS.pre 8 rfl
   exact Does.call (wn _ rfl) (o_f1 Tryz.func46 rfl rfl rfl (eR15_8)) (sfilter_any b S wS (hS0.gr (q.trans (gr_drew pS.gr)))) (by rintro _ w2 ⟨ga, gn, gc, rfl, hgf, g⟩; exact ⟨_, rfl, g, ⟨ga, gn, gc, rfl, hgf⟩⟩) rfl)
 have ad := ab.snoc (n' := 11) rfl (fun vJ _ => vJ = .pointer (some ⟨b, 0, none⟩)) rfl (fun _ _ _ _ h => h) (fun aS wS pS => by
   exact Does.val (wn _ rfl) (o_mv ((pS.old 0 rfl).trans (a.n l))) (Gr.refl _) rfl rfl)
 have af := ad.snoc (n' := 12) rfl (fun vJ wJ => ∃ (F : List PtX) (ja : Option Addr) (jc : Nat), vJ = .slice ja F.length jc ∧ (F.length ≤ S.P.length + 1) ∧ (Sees F S) ∧ (FewP F) ∧ (PL 0 wJ (.slice ja F.length jc) F)) rfl (fun _ _ _ g ⟨F, ja, jc, h, c, r, t, u⟩ => ⟨F, ja, jc, h, c, r, t, u.gr g⟩) (fun aS wS pS => by
   have eR15_10 : aS.eval (.tmp 13) = .pointer (some ⟨b, 0, none⟩) := pS.pre 10 rfl
   exact Does.call (wn _ rfl) (o_f1 Tryz.func47 rfl rfl rfl (eR15_10)) (sparts_any b S hO wS (hS0.gr (q.trans (gr_drew pS.gr)))) (by rintro _ w2 ⟨F, ja, jc, rfl, hFl, hFs, hFf, hFp, g⟩; exact ⟨_, rfl, g, ⟨F, ja, jc, rfl, hFl, hFs, hFf, hFp⟩⟩) rfl)
 have ag := af.snoc (n' := 13) rfl (fun vJ wJ => ∃ (ga : Option Addr) (gn : Nat) (gc : Nat) (F : List PtX) (ja : Option Addr) (jc : Nat), vJ = .agg #[.int .i64 ((S.me : Nat) : Int), .int .i64 ((S.stamp : Nat) : Int), .slice ga gn gc, .slice ja F.length jc] ∧ (FO 0 16 wJ (.slice ga gn gc) S.T) ∧ (F.length ≤ S.P.length + 1) ∧ (Sees F S) ∧ (FewP F) ∧ (PL 0 wJ (.slice ja F.length jc) F)) rfl (fun _ _ _ g ⟨ga, gn, gc, F, ja, jc, h, c, r, t, u, q4⟩ => ⟨ga, gn, gc, F, ja, jc, h, c.gr0 g, r, t, u, q4.gr g⟩) (fun aS wS pS => by
   have eR15_3 : aS.eval (.tmp 6) = .int .i64 ((S.me : Nat) : Int) := pS.pre 3 rfl
   have eR15_7 : aS.eval (.tmp 10) = .int .i64 ((S.stamp : Nat) : Int) := pS.pre 7 rfl
   obtain ⟨ga, gn, gc, eR15_9, hgf⟩ := pS.pre 9 rfl
   have eR15_9 : aS.eval (.tmp 12) = .slice ga gn gc := eR15_9
   obtain ⟨F, ja, jc, eR15_11, hFl, hFs, hFf, hFp⟩ := pS.pre 11 rfl
   have eR15_11 : aS.eval (.tmp 14) = .slice ja F.length jc := eR15_11
   exact Does.val (wn _ rfl) (o_bd (cells := #[.int .i64 ((S.me : Nat) : Int), .int .i64 ((S.stamp : Nat) : Int), .slice ga gn gc, .slice ja F.length jc]) (vs := [(0, .int .i64 ((S.me : Nat) : Int)), (1, .int .i64 ((S.stamp : Nat) : Int)), (2, .slice ga gn gc), (3, .slice ja F.length jc)]) (by simp [(eR15_3), (eR15_7), (eR15_9), (eR15_11), ev_const]) (by kernel_rfl)) (Gr.refl _) ⟨ga, gn, gc, F, ja, jc, rfl, hgf, hFl, hFs, hFf, hFp⟩ rfl)
 refine ag.run (k := 1) (L := #[true, true, true, true, true, true, true, true, true, true, true, true, true, false]) (by kernel_rfl) (by kernel_rfl) (by kernel_rfl) a.ok (by kernel_rfl) (by kernel_rfl) (fun ap17 au j => ?_)
 have D := gr_drew j.gr
 have ai := q.trans D
 have o := n.bk.gr D
 obtain ⟨ga, gn, gc, F, ja, jc, ep17_12, hgf, hFl, hFs, hFf, hFp⟩ := j.js 12 rfl
 have ep17_12 : ap17.eval (.tmp 15) = .agg #[.int .i64 ((S.me : Nat) : Int), .int .i64 ((S.stamp : Nat) : Int), .slice ga gn gc, .slice ja F.length jc] := ep17_12
 refine t_stR (i := 13) (by kernel_rfl) rfl rfl (wn _ rfl) (o_stR ((j.old 2 rfl).trans a.at_) ep17_12 o (by kernel_rfl) rfl (by simp [Value.oneCell'])) o (fun aj y ak => ?_)
 have al : Gr w aj := Below.upd ai I y
 have am := hgf.tk (tkw_upd y o (by decide)).p
 have an := hFp.tkw (tkw_upd y o (by decide))
 refine wpAny_done (by kernel_rfl) ?_ _
 refine th_n (J _ _ (wp_ret (ret1 j.ok rfl (⟨_, _, ((j.old 2 rfl).trans a.at_), ld_row ak Tryz.underlying34 rfl (by kernel_rfl)⟩) ⟨ga, gn, gc, F, ja, jc, rfl, am, an, hFl, hFs, hFf, al⟩)))
end Go.Proofs.YtglbnggkkjhokaaGreat
/- A region that draws its order: one part of a call's answer is stored in a block, the other part is taken whenever it likes. -/
namespace Gx
open Go Go.RowKit Rm
section
variable {P : Program} {ops : Array Oper} {Q : Exit → Act → World → Prop} {N : Nat} {a₀ : Act} {w₀ : World} {hs : List Nat}
def shapeE (ops : Array Oper) (hs : List Nat) (e : Nat) : Bool :=
 (hs.all fun i => ((ops[i]?).bind (·.dst)).isSome && ((hs.all fun j => Nat.beq j i || !Nat.beq (dstAt ops j) (dstAt ops i))) && (match ops[i]? with | some o => o.after.toList.all fun e => !(Region.binds .any e) || hd hs e.on | none => false)) &&
 ((List.range ops.size).all fun i => hd hs i || (hs.all fun j => Nat.beq j e || reach ops ops.size i j))
theorem shapeE_spec {e : Nat} (h : shapeE ops hs e = true) : (∀ i, hd hs i = true → ∃ o, ops[i]? = some o ∧ o.dst = some (dstAt ops i) ∧ ∀ e ∈ o.after, Region.binds .any e = true → hd hs e.on = true) ∧
  (∀ i j, hd hs i = true → hd hs j = true → i ≠ j → dstAt ops j ≠ dstAt ops i) ∧ (∀ i, i < ops.size → hd hs i = false → ∀ j, hd hs j = true → j ≠ e → reach ops ops.size i j = true) := by
 unfold shapeE at h
 rw [Bool.and_eq_true] at h
 obtain ⟨h1, h2⟩ := h
 have key : ∀ i, hd hs i = true → (((ops[i]?).bind (·.dst)).isSome = true ∧ (∀ j, hd hs j = true → i ≠ j → dstAt ops j ≠ dstAt ops i)) ∧ (match ops[i]? with | some o => o.after.toList.all fun e => !(Region.binds .any e) || hd hs e.on | none => false) = true := by
  intro i hi
  have := List.all_eq_true.1 h1 i (hd_mem.1 hi)
  simp only [Bool.and_eq_true] at this
  refine ⟨⟨this.1.1, fun j hj hne => ?_⟩, this.2⟩
  have h3 := List.all_eq_true.1 this.1.2 j (hd_mem.1 hj)
  rw [Bool.or_eq_true] at h3
  rcases h3 with h3 | h3
  ·exact absurd (Nat.eq_of_beq_eq_true h3).symm hne
  ·rw [Bool.not_eq_true'] at h3
   exact Nat.ne_of_beq_eq_false h3
 refine ⟨fun i hi => ?_, fun i j hi hj hne => (key i hi).1.2 j hj hne, fun i hi hn j hj hje => ?_⟩
 ·obtain ⟨⟨k1, -⟩, k2⟩ := key i hi
  cases ho : ops[i]? with
  | none => rw [ho] at k1; cases k1
  | some o =>
   refine ⟨o, rfl, ?_, fun e he hb => ?_⟩
   ·rw [ho] at k1
    simp only [Option.bind_some] at k1
    obtain ⟨d, hd'⟩ := Option.isSome_iff_exists.1 k1
    unfold dstAt
    rw [ho]
    simp [hd']
   ·rw [ho] at k2
    have := List.all_eq_true.1 k2 e (by simpa using he)
    rw [hb] at this
    simpa using this
 ·have := List.all_eq_true.1 h2 i (List.mem_range.2 hi)
  rw [hn, Bool.false_or] at this
  have h3 := List.all_eq_true.1 this j (hd_mem.1 hj)
  rw [Bool.or_eq_true] at h3
  rcases h3 with h3 | h3
  ·exact absurd (Nat.eq_of_beq_eq_true h3) hje
  ·exact h3
structure WayE (ops : Array Oper) (hs : List Nat) (js : Js) (N : Nat) (a₀ : Act) (w₀ : World) (U : List Nat) (L : Array Bool) (a : Act) (w : World) : Prop where
 ok : Ok N a
 gr : Gr w₀ w
 old : ∀ t, (fdH ops hs).all (fun d => !Nat.beq t d) = true → a.eval (.tmp t) = a₀.eval (.tmp t)
 size : L.size = ops.size
 closed : Closed ops L
 nodup : U.Nodup
 un : ∀ j, hd hs j = true → (L.getD j false = false ↔ j ∈ U)
 lt : ∀ j ∈ U, hd hs j = true
 tail : ∀ j, hd hs j = false → L.getD j false = false
 js : ∀ j, hd hs j = true → L.getD j false = true → jAt js j (a.eval (.tmp (dstAt ops j))) w
structure PostE (ops : Array Oper) (hs : List Nat) (e : Nat) (js : Js) (N : Nat) (a₀ : Act) (w₀ : World) (a : Act) (w : World) : Prop where
  ok : Ok N a
  gr : Gr w₀ w
  old : ∀ t, (fdH ops hs).all (fun d => !Nat.beq t d) = true → a.eval (.tmp t) = a₀.eval (.tmp t)
  js : ∀ j, hd hs j = true → Nat.beq j e = false → jAt js j (a.eval (.tmp (dstAt ops j))) w
theorem RegH.wayE {n e : Nat} {js : Js} (R : RegH P ops Q N a₀ w₀ hs n js) (hn0 : n = ops.size) (he0 : hd hs e = true) (hsh : shapeE ops hs e = true) (hN : (hs.all fun i => Nat.blt (dstAt ops i) N) = true)
  (hend0 : ∀ a w, PostE ops hs e js N a₀ w₀ a w → jAt js e (a.eval (.tmp (dstAt ops e))) w → wpAny P .any ops Q 1 (firstsH ops.size hs) a w)
  (hend1 : ∀ a w, PostE ops hs e js N a₀ w₀ a w → wpAny P .any ops Q 2 (firstsH ops.size (hs.filter fun i => !Nat.beq i e)) a w) :
  ∀ (U : List Nat) (L : Array Bool) (a : Act) (w : World), WayE ops hs js N a₀ w₀ U L a w → wpAny P .any ops Q (U.length + 1) L a w := by
 obtain ⟨hdd0, hdd, ht⟩ := shapeE_spec hsh
 subst hn0
 have hb := backs_spec R.back
 have hLof : ∀ (U : List Nat) (L : Array Bool) (a : Act) (w : World), WayE ops hs js N a₀ w₀ U L a w → ∀ hs', (∀ i, hd hs' i = (hd hs i && !U.contains i)) → L = firstsH ops.size hs' := by
  intro U L a w W hs' h'
  apply Array.ext
  ·simp [firstsH, W.size]
  ·intro i h1 h2
   have e1 : L[i] = L.getD i false := by simp [Array.getD, h1]
   rw [e1]
   simp only [firstsH, List.getElem_toArray, List.getElem_map, List.getElem_range]
   rw [h' i]
   cases q : hd hs i
   ·rw [W.tail i q]; rfl
   ·have := W.un i q
    cases q2 : L.getD i false
    ·have : i ∈ U := this.1 q2
     simp [this]
    ·have : i ∉ U := fun hm => by rw [this.2 hm] at q2; cases q2
     simp [this]
 intro U
 generalize hn : U.length = u0
 induction u0 generalizing U with
 | zero =>
  intro L a w W
  have hU : U = [] := List.eq_nil_of_length_eq_zero hn
  subst hU
  have hall : ∀ j, hd hs j = true → L.getD j false = true := fun j hj => by
   have := (W.un j hj)
   cases e : L.getD j false
   ·rw [e] at this; exact absurd (this.1 rfl) (by simp)
   ·rfl
  have hL := hLof [] L a w W hs (fun i => by simp)
  subst hL
  exact hend0 a w ⟨W.ok, W.gr, W.old, fun j hj _ => W.js j hj (hall j hj)⟩ (W.js e he0 (hall e he0))
 | succ u0 ih =>
  intro L a w W
  by_cases hUe : U = [e]
  ·subst hUe
   have hu0 : u0 = 0 := by simpa using hn.symm
   subst hu0
   have hall : ∀ j, hd hs j = true → j ≠ e → L.getD j false = true := fun j hj hje => by
    have := (W.un j hj)
    cases q : L.getD j false
    ·rw [q] at this; exact absurd (List.mem_singleton.1 (this.1 rfl)) hje
    ·rfl
   have hL := hLof [e] L a w W (hs.filter fun i => !Nat.beq i e) (fun i => by
    have q : [e].contains i = Nat.beq i e := by
     rw [Bool.eq_iff_iff, Nat.beq_eq]
     simp
    rw [Bool.eq_iff_iff, hd_mem, List.mem_filter, Bool.and_eq_true, hd_mem, q])
   subst hL
   exact hend1 a w ⟨W.ok, W.gr, W.old, fun j hj hje => W.js j hj (hall j hj (Nat.ne_of_beq_eq_false hje))⟩
  rw [Nat.succ_add]
  -- some operation besides the late one is not listed yet
  obtain ⟨u, hu, hue⟩ : ∃ u ∈ U, u ≠ e := by
   match U, hn, hUe, W.nodup with
   | [x], _, hUe, _ => exact ⟨x, List.mem_singleton.2 rfl, fun h => hUe (by rw [h])⟩
   | x :: y :: r, _, _, hnd =>
    by_cases q : x = e
    ·refine ⟨y, by simp, fun h => ?_⟩
     rw [q, h] at hnd
     simp at hnd
    ·exact ⟨x, by simp, q⟩
  have hne : Region.ready .any ops L ≠ [] := by
   have hlu := W.lt u hu
   have hex : ∃ k, hd hs k = true ∧ L.getD k false = false := ⟨u, hlu, (W.un u hlu).2 hu⟩
   obtain ⟨k, ⟨hk1, hk2⟩, hk3⟩ := exists_least hex
   obtain ⟨o, ho, -, hcl⟩ := hdd0 k hk1
   have hki : k < L.size := by rw [W.size]; exact (Array.getElem?_eq_some_iff.1 ho).1
   have : k ∈ Region.ready .any ops L := by
    rw [mem_ready]
    refine ⟨by rw [getD_lt hki true false]; exact hk2, o, ho, fun e he hbd => ?_⟩
    have hlt := hb k o ho e he hbd
    cases q : L.getD e.on false
    ·have := hk3 e.on ⟨hcl e he hbd, q⟩; omega
    ·rfl
   intro e
   rw [e] at this
   cases this
  refine ⟨fun h => absurd h hne, fun i hi => ?_⟩
  obtain ⟨hil, o, ho, hall⟩ := mem_ready.1 hi
  have his : i < ops.size := (Array.getElem?_eq_some_iff.1 ho).1
  have hiL : i < L.size := by rw [W.size]; exact his
  have hil' : L.getD i false = false := by rw [getD_lt hiL false true]; exact hil
  have him : hd hs i = true := by
   cases q : hd hs i
   ·exfalso
    have hlu := W.lt u hu
    have h1 := reach_listed W.closed ops.size i u (fun o' ho' e he hbd => by
     obtain rfl : o = o' := Option.some.inj (ho.symm.trans ho')
     exact hall e he hbd) (ht i his q u hlu hue)
    rw [(W.un u hlu).2 hu] at h1
    cases h1
   ·rfl
  have hiU : i ∈ U := (W.un i him).1 hil'
  obtain ⟨o', ho', hdst, hcl⟩ := hdd0 i him
  obtain rfl : o = o' := Option.some.inj (ho.symm.trans ho')
  have hdoes := R.does i o his him ho a w ⟨W.ok, W.gr, W.old, fun j hj => by
    unfold waits at hj
    obtain ⟨e, he, hh⟩ := List.any_eq_true.1 hj
    have he : e ∈ o.after := by simpa using he
    simp only [Bool.and_eq_true] at hh
    have h2 := Nat.eq_of_beq_eq_true hh.2
    have h3 := hall e he hh.1
    rw [h2] at h3
    have hjh := hcl e he hh.1
    rw [h2] at hjh
    exact W.js j hjh h3⟩
  have hdN : Nat.blt (dstAt ops i) N = true := List.all_eq_true.1 hN i (hd_mem.1 him)
  have next : ∀ v w', Gr w w' → jAt js i v w' → wpAny P .any ops Q (u0 + 1) (L.setIfInBounds i true) (a.put o.dst v) w' := by
   intro v w' g hJ
   rw [hdst]
   have nx := Nx.put W.ok hdN v
   refine ih (U.erase i) (by rw [List.length_erase_of_mem hiU, hn]; rfl) (L.setIfInBounds i true) _ w' ?_
   refine ⟨nx.ok, W.gr.trans g, fun t ht => ?_, by simp [W.size], ?_, W.nodup.erase _, ?_, fun j hj => W.lt j (List.mem_of_mem_erase hj), ?_, ?_⟩
   ·have := List.all_eq_true.1 ht _ (fdH_mem ho him hdst)
    rw [Bool.not_eq_true'] at this
    exact (nx.oth t this).trans (W.old t ht)
   ·intro k ok hk hok e he hbd
    rw [getD_set hiL] at hk ⊢
    split
    ·rfl
    ·by_cases q : i = k
     ·subst q
      obtain rfl : o = ok := Option.some.inj (ho.symm.trans hok)
      exact hall e he hbd
     ·rw [if_neg q] at hk
      exact W.closed k ok hk hok e he hbd
   ·intro j hj
    rw [getD_set hiL, W.nodup.mem_erase_iff]
    by_cases q : i = j
    ·subst q; simp
    ·rw [if_neg q, W.un j hj]
     exact ⟨fun h => ⟨fun e => q e.symm, h⟩, fun h => h.2⟩
   ·intro j hj
    rw [getD_set hiL, if_neg (fun e => by subst e; rw [him] at hj; cases hj)]
    exact W.tail j hj
   ·intro j hj hl
    by_cases q : i = j
    ·subst q
     rw [nx.at_]
     exact hJ
    ·rw [getD_set hiL, if_neg q] at hl
     have h1 := W.js j hj hl
     rw [nx.oth _ (by
      have := hdd i j him hj q
      cases e : Nat.beq (dstAt ops j) (dstAt ops i)
      ·rfl
      ·exact absurd (Nat.eq_of_beq_eq_true e) this)]
     exact R.mono j _ _ _ g h1
  unfold wpOp
  rw [ho]
  unfold Does at hdoes
  by_cases hw : Region.wanted o (yielded ops a.tmps) = true
  ·rw [if_pos hw] at hdoes
   simp only [hw, if_true]
   left
   refine Oper.wp_mono ?_ hdoes
   rintro a' w' ⟨v, rfl, g, hj, -⟩
   exact next v w' g hj
  ·rw [if_neg hw] at hdoes
   simp only [hw, if_false, Bool.false_eq_true]
   exact next undef w (Gr.refl w) hdoes.1
theorem RegH.runE {id n e j de : Nat} {js : Js} {a : Act} {w : World} {oe oj : Oper} {v1 : Value} {L0 L1 : Array Bool} (R : RegH P ops Q N a w.drew hs n js) (hn : ops.size = n) (hk : ((List.range n).filter fun i => hd hs i).length + 1 = n)
    (hL0 : firstsH n hs = L0) (hL1 : firstsH n (hs.filter fun i => !Nat.beq i e) = L1) (hf : P.follows .mixedOrders = true) (ok : Ok N a) (he0 : hd hs e = true) (hsh : shapeE ops hs e = true) (hN : (hs.all fun i => Nat.blt (dstAt ops i) N) = true)
    (hr0 : Region.ready .any ops L1 = [e, j]) (hr1 : Region.ready .any ops (L1.setIfInBounds e true) = [j]) (hr2 : Region.ready .any ops (L1.setIfInBounds j true) = [e]) (hLL : (L1.setIfInBounds j true).setIfInBounds e true = (L1.setIfInBounds e true).setIfInBounds j true) (hL01 : L1.setIfInBounds e true = L0)
    (hoe : ops[e]? = some oe) (hoj : ops[j]? = some oj) (hde : oe.dst = some de) (hda : dstAt ops e = de) (hdj : oj.dst = none) (hwe : ∀ a : Act, Region.wanted oe (yielded ops a.tmps) = true) (hwj : ∀ a : Act, Region.wanted oj (yielded ops a.tmps) = true) (hNe : Nat.blt de N = true)
    (hje : ∀ v w, jAt js e v w → v = v1)
    (h : ∀ ap wp, PostE ops hs e js N a w.drew ap wp → ∃ b k u cs t, Bk wp b cs t ∧ (∀ w1 : World, (execOp ap.eval oe).run P w1 = .ok (.value v1) w1) ∧ (∀ a' : Act, (∀ t, Nat.beq t de = false → a'.eval (.tmp t) = ap.eval (.tmp t)) → (execOp a'.eval oj).run P wp = .ok .skip (wp.setCell ⟨b, k, none⟩ u)) ∧
      ∀ a' w', Nx N ap a' de v1 → Upd wp w' b → Bk w' b (cs.setIfInBounds k u) t → wpAny P .any ops Q 0 (L0.setIfInBounds j true) a' w') : (Code.region id ops true).wp P Q a w := by
  subst hn hL0 hL1
  refine wp_region_any hf ?_
  obtain ⟨hdd0, -, -⟩ := shapeE_spec hsh
  have hmem : ∀ j, hd hs j = true → j ∈ (List.range ops.size).filter fun i => hd hs i := fun j hj => by
    obtain ⟨o, ho, -⟩ := hdd0 j hj
    exact List.mem_filter.2 ⟨List.mem_range.2 (Array.getElem?_eq_some_iff.1 ho).1, hj⟩
  have h' := R.wayE rfl he0 hsh hN
    (fun ap wp p hj => by
      obtain ⟨b, k, u, cs, t, hb, -, hst, hc⟩ := h ap wp p
      have hrj : Region.ready .any ops (firstsH ops.size hs) = [j] := by rw [← hL01]; exact hr1
      refine wpAny_all hrj (by simp) fun i hi => ?_
      obtain rfl : i = j := by simpa using hi
      exact w_st hoj (hwj _) hdj (hst ap fun _ _ => rfl) (hc ap _ ⟨p.ok, (by rw [← hda]; exact hje _ _ hj), fun _ _ => rfl⟩ (upd_cell _ _ _ _) (hb.set _ _)))
    (fun ap wp p => by
      obtain ⟨b, k, u, cs, t, hb, he, hst, hc⟩ := h ap wp p
      refine t_ev hr0 hr1 hr2 hLL hoe hoj p.ok hde hdj hwe hwj hNe he hst fun a' nx => ?_
      rw [hL01]
      exact hc a' _ nx (upd_cell _ _ _ _) (hb.set _ _))
    ((List.range ops.size).filter fun i => hd hs i) (Array.replicate ops.size false) a w.drew
    { ok := ok, gr := Gr.refl _, old := fun _ _ => rfl, size := by simp
      closed := fun i o h => by rw [replicate_getD] at h; cases h
      nodup := List.nodup_range.filter _
      un := fun j hj => by rw [replicate_getD]; simp only [true_iff]; exact hmem j hj
      lt := fun j hj => (List.mem_filter.1 hj).2
      tail := fun j _ => replicate_getD _ _
      js := fun j _ h => by rw [replicate_getD] at h; cases h }
  rw [hk] at h'
  exact h'
end
end Gx
/- Site: Make, Want. -/
namespace Go.Proofs.YtglbnggkkjhokaaGreat
open Go.RowKit Rm Gx
theorem KnO.updL {base b : Nat} {w w' : World} {k : Value} {v : List Nat} {m : List (Nat × Nat)} (h : KnO base w k v m) (u : Upd w w' b) (hb : b < base) : KnO base w' k v m := by
 obtain ⟨vv, mv, e, h1, h2⟩ := h
 exact ⟨vv, mv, e, ow_upd h1 u hb, ow_upd h2 u hb⟩
theorem ResV.updL {base b : Nat} {w w' : World} {u : Value} {L : List VerD} (h : ResV base w u L) (up : Upd w w' b) (hb : b < base) : ResV base w' u L := by
 obtain ⟨R, h1, h2, h3⟩ := h
 refine ⟨R, h1, ow_upd h2 up hb, fun x hx => ?_⟩
 obtain ⟨v, m, e1, e2, e3⟩ := h3 x hx
 exact ⟨v, m, e1, e2, e3.updL up hb⟩
def newD (S : SiD) (l : List UInt8) (t n d : Int) : VerD := ⟨l, (S.me : Int), ((S.made + 1 : Nat) : Int), t, n, d, ints (formV (pD S.L l)), pairs (formM (pD S.L l))⟩
def mkS (S : SiD) (l : List UInt8) (t n d : Int) : SiD := { S with made := S.made + 1, L := putL S.L (newD S l t n d) }
def NewAt (w w' : World) (b : Nat) (S S' : SiD) : Prop := ∃ fa fn fc sa sn sq la lc ra rn rc, Bk w b #[.int .i64 (S.me : Int), .int .i64 (S.made : Int), .int .i64 (S.stamp : Int), .slice fa fn fc, .slice sa sn sq, .slice la S.P.length lc] 125 ∧ Bk w' b #[.int .i64 (S'.me : Int), .int .i64 (S'.made : Int), .int .i64 (S'.stamp : Int), .slice fa fn fc, .slice ra rn rc, .slice la S'.P.length lc] 125 ∧ ResV w.heap.size w' (.slice ra rn rc) S'.L
def wantB (S : SiD) (U : Nat → Nat) (v : VerD) : Bool := decide (v.s = (S.me : Int)) || bitT U v.t v.n
theorem past_s (u : Value) (L : List VerD) (l : List UInt8) (base : Nat) (w : World) (hL : OkS L) (hf : (formM (pD L l)).length ≤ 60) (hu : ResV base w u L) :
  Calls Tryz.prog 78 #[u, .string (bs l)] w fun e w' => ∃ pa pc qa qc, e = .returned (.tuple #[.agg #[.slice pa (ints (formV (pD L l))).length pc, .slice qa (pairs (formM (pD L l))).length qc], .int .i64 0]) ∧ (∃ bs, KnW bs w' (.agg #[.slice pa (ints (formV (pD L l))).length pc, .slice qa (pairs (formM (pD L l))).length qc]) (formV (pD L l)) (formM (pD L l))) ∧ Gr w w' := by
 obtain ⟨K, a, c, rfl, hK, -, -, hr, hm⟩ := hu.rd
 obtain ⟨f1, f2, f3⟩ := fr_of hf
 subst hK
 refine (past_w K a c l ((okS_iff _).2 hL) w hr hm).mono ?_
 rintro e w' ⟨k, bs, rfl, h, g⟩
 rw [f2, f3] at h
 rw [f1]
 obtain ⟨va, vc, ma, mc, rfl, -, -⟩ := knr_form h.rd
 exact ⟨va, vc, ma, mc, rfl, ⟨bs, h⟩, g⟩
theorem put_s (u : Value) (L : List VerD) (y : VerI) (base : Nat) (w : World) (hp : putE L y.d = 0) (hu : ResV base w u L) (hy : MeanV w y) :
  Calls Tryz.prog 79 #[u, .agg (encVr y).toArray] w fun e w' => ∃ a n c, e = .returned (.tuple #[.slice a n c, .int .i64 0]) ∧ ResV w.heap.size w' (.slice a n c) (putL L y.d) ∧ Gr w w' := by
 obtain ⟨K, a, c, rfl, hK, -, -, hr, hm⟩ := hu.rd
 subst hK
 refine (sput_any K y a c w hr hm hy).mono ?_
 rintro e w' ⟨v, rfl, h, g⟩
 rw [hp]
 have h' := h
 obtain ⟨R, h1, h2, h3⟩ := h'
 obtain ⟨a, c, rfl, -⟩ := ow_form h2
 exact ⟨a, _, c, rfl, h, g⟩
theorem ResV.lower {base base' : Nat} {w : World} {u : Value} {L : List VerD} (h : ResV base w u L) (hb : base' ≤ base) : ResV base' w u L := by
 obtain ⟨R, h1, h2, h3⟩ := h
 exact ⟨R, h1, ow_lessP h2 hb, h3.base hb⟩
theorem newI (S : SiD) (l : List UInt8) (t n d : Int) (pa qa : Option Addr) (pc qc : Nat) (w : World) (h : KnR w (.agg #[.slice pa (ints (formV (pD S.L l))).length pc, .slice qa (pairs (formM (pD S.L l))).length qc]) (ints (formV (pD S.L l))) (pairs (formM (pD S.L l)))) :
  ∃ y : VerI, Value.agg #[.string (bs l), .int .i64 ((S.me : Nat) : Int), .int .i64 ((S.made + 1 : Nat) : Int), .int .i64 (t), .int .i64 (n), .int .i64 (d), .slice pa ((ints (formV (pD S.L l))).length) pc, .slice qa ((pairs (formM (pD S.L l))).length) qc] = .agg (encVr y).toArray ∧ y.d = newD S l t n d ∧ MeanV w y := by
 have hD : newD S l t n d = ⟨l, (S.me : Int), ((S.made + 1 : Nat) : Int), t, n, d, ints (formV (pD S.L l)), pairs (formM (pD S.L l))⟩ := rfl
 generalize ints (formV (pD S.L l)) = V at h hD ⊢
 generalize pairs (formM (pD S.L l)) = M at h hD ⊢
 exact ⟨⟨⟨l, (S.me : Int), ((S.made + 1 : Nat) : Int), t, n, d, V, M⟩, pa, pc, qa, qc⟩, rfl, hD.symm, h⟩
theorem put_b (u : Value) (L : List VerD) (y : VerI) (base base2 : Nat) (w : World) (hz : base2 ≤ w.heap.size) (hp : putE L y.d = 0) (hu : ResV base w u L) (hy : MeanV w y) :
  Calls Tryz.prog 79 #[u, .agg (encVr y).toArray] w fun e w' => ∃ a n c, e = .returned (.tuple #[.slice a n c, .int .i64 0]) ∧ ResV base2 w' (.slice a n c) (putL L y.d) ∧ Gr w w' :=
 (put_s u L y base w hp hu hy).mono fun e w' ⟨a, n, c, h1, h2, g⟩ => ⟨a, n, c, h1, h2.lower hz, g⟩
theorem only_b (u : Value) (L : List VerD) (f : FuncId) (caps : List Value) (q : VerD → Bool) (base : Nat) (w : World) (hf : FnOk Tryz.prog f) (hL : OkS L) (hu : ResV base w u L)
  (hc : ∀ x : VerI, x.d ∈ L → ∀ w1, Gr w w1 → Calls Tryz.prog f (.agg #[.string (bs x.d.id), .int .i64 (x.d.s), .int .i64 (x.d.c), .int .i64 (x.d.t), .int .i64 (x.d.n), .int .i64 (x.d.b), .slice x.va x.d.V.length x.vc, .slice x.ma x.d.M.length x.mc] :: caps).toArray w1 fun e w2 => e = .returned (.bool (q x.d)) ∧ Gr w1 w2) :
  Calls Tryz.prog 71 #[u, .func (.func f) #[] caps.toArray] w fun e w' => ∃ a n c, e = .returned (.slice a n c) ∧ ResV 0 w' (.slice a n c) (L.filter q) ∧ Gr w w' :=
 (only_any u L f caps q base w hf hL hu hc).mono fun e w' ⟨a, n, c, h1, h2, _, g⟩ => ⟨a, n, c, h1, h2.any, g⟩
theorem pnar_b (v : Value) (K : List PtX) (fv : Value) (U : Nat → Nat) (w : World) (hl : K.length ≤ 30) (hK : PL 0 w v K) (hf : FS w fv U) :
    Calls Tryz.prog 72 #[v, fv] w fun e w' => ∃ (F : List PtX) (a : Option Addr) (c : Nat), e = .returned (.tuple #[.slice a F.length c, .int .i64 0]) ∧ F.length ≤ K.length ∧ NarP F U K ∧ PL 0 w' (.slice a F.length c) F ∧ Gr w w' := by
  obtain ⟨va, vc, rfl, -, -, hv, hm⟩ := hK.rd
  refine (pnarrow_ok K va vc fv U hl w hv hm hf).mono ?_
  rintro e w' ⟨R, hR, v, rfl, h2, h3, g⟩
  have hRl : R.length = K.length := by have := congrArg List.length hR; simpa using this
  have hF := fewP_len R
  have hOk : ∀ y ∈ R, OkT y.T := fun y hy => by
    have : y.m ∈ K.map (nar U) := hR ▸ List.mem_map_of_mem hy
    obtain ⟨x, hx, e⟩ := List.mem_map.1 this
    have e1 : y.T = fun t => x.T t &&& U t := (congrArg Prod.fst e).symm
    rw [e1]
    exact okT_and (hm x hx).fs.okT
  obtain ⟨a, c, rfl, hac⟩ := ow_form h2
  exact ⟨fewP R, a, c, rfl, by omega, fun t n a c p1 p2 p3 => by rw [fewP_has hOk t n a c p1 p2 p3, nar_has hR], PL.any ⟨h2, h3⟩, g⟩
theorem smake_ok (b : Nat) (S : SiD) (l : List UInt8) (t n d : Int) (w0 w : World) (hG : Gr w0 w) (hB : w0.heap.size ≤ b) (hS : SiteAt w b S) (hO : SiOk S) (hone : chkOne ⟨l, (S.me : Int), 1, t, n, d, [], []⟩ = 0) (hmd : S.made < 1000) (hfew : (formM (pD S.L l)).length ≤ 60) (hput : putE S.L (newD S l t n d) = 0) :
  Calls Tryz.prog 22 #[.pointer (some ⟨b, 0, none⟩), .string (bs l), .agg #[.int .i64 (t), .int .i64 (n)], .int .i64 (d)] w fun e w' => e = .returned (.tuple #[.agg #[.int .i64 (S.me : Int), .int .i64 ((S.made + 1 : Nat) : Int)], .int .i64 0]) ∧ SiteAt w' b (mkS S l t n d) ∧ NewAt w w' b S (mkS S l t n d) ∧ w.grownBy w' (some b) := by
 refine enter (N := 83) Tryz.func22 rfl rfl rfl (fun a0 ok0 h0 => ?_)
 have b7 : a0.eval (.tmp 0) = .pointer (some ⟨b, 0, none⟩) := h0 0 _ rfl
 have b8 : a0.eval (.tmp 1) = .string (bs l) := h0 1 _ rfl
 have b9 : a0.eval (.tmp 2) = .agg #[.int .i64 (t), .int .i64 (n)] := h0 2 _ rfl
 have ca : a0.eval (.tmp 3) = .int .i64 (d) := h0 3 _ rfl
 clear h0
 have hS0 := hS
 obtain ⟨fa, fn, fc, sa, sn, sq, la, lc, hb, hF, hR, hP⟩ := hS
 have hlt : b < w.heap.size := hb.lt
 have hst := hO.st
 have hA0 := Gr.refl w
 refine wp_seq_k (fun K1 cb => (wp_region_lit (sal (cs := #[.int .i64 (t), .int .i64 (n)]) ok0 rfl (wn _ rfl) rfl (o_box b9) (fun fp w4 b3 W5 n2 => ?_))))
 have bq := hb.gr W5.gr
 have cc := hA0.trans W5.gr
 have br := gb_gr (gb_self : w.grownBy w (some b)) W5.gr
 refine sal (cs := #[.int .i64 0, .int .i64 0]) n2.ok rfl (wn _ rfl) rfl (o_al (z := .agg #[.int .i64 0, .int .i64 0]) (by kernel_rfl)) (fun ft cd aF j J => ?_)
 have a8 : b < aF := by rw [j.eq]; exact bq.lt
 have cf : w.heap.size ≤ aF := by rw [j.eq]; exact br.size
 have a9 := bq.gr j.gr
 have cg := W5.bk.gr j.gr
 have bt := cc.trans j.gr
 have bu := gb_gr br j.gr
 refine sw J.ok (o_as ev_const) (fun fu K => ?_)
 refine wpList_nil (th_n (cb _ _ (wp_seq_k (fun fv ch => (reg_start (N := 83) (m := 10) (by kernel_rfl) (fun ci => ?_))))))
 have bv := K.n (J.n (n2.n b8))
 have cj := ci.snoc (n' := 1) rfl (fun vJ _ => vJ = .string (bs l)) rfl (fun _ _ _ _ h => h) (fun aS wS pS => by
   exact Does.val (wn _ rfl) (o_mv ((pS.old 1 rfl).trans bv)) (Gr.refl _) rfl rfl)
 have bx := K.n (J.n (n2.n b7))
 have ck := cj.snoc (n' := 2) rfl (fun vJ _ => vJ = .pointer (some ⟨b, 0, none⟩)) rfl (fun _ _ _ _ h => h) (fun aS wS pS => by
   exact Does.val (wn _ rfl) (o_mv ((pS.old 0 rfl).trans bx)) (Gr.refl _) rfl rfl)
 have cl := ck.snoc (n' := 3) rfl (fun vJ _ => vJ = .pointer (some ⟨b, 0, none⟩)) rfl (fun _ _ _ _ h => h) (fun aS wS pS => by
   have eR38_1 : aS.eval (.tmp 16) = .pointer (some ⟨b, 0, none⟩) := pS.pre 1 rfl
   exact Does.val (wn _ rfl) (o_nc (eR38_1)) (Gr.refl _) rfl rfl)
 have cm := cl.snoc (n' := 4) rfl (fun vJ _ => vJ = .pointer (some ⟨b, 0, none⟩)) rfl (fun _ _ _ _ h => h) (fun aS wS pS => by
   have eR38_2 : aS.eval (.tmp 17) = .pointer (some ⟨b, 0, none⟩) := pS.pre 2 rfl
   exact Does.val (wn _ rfl) (o_fa (z := 1) (eR38_2) Tryz.underlying125 rfl (by kernel_rfl) rfl rfl) (Gr.refl _) rfl rfl)
 have cn := cm.snoc (n' := 5) rfl (fun vJ _ => vJ = .int .i64 ((S.me : Nat) : Int)) rfl (fun _ _ _ _ h => h) (fun aS wS pS => by
   have eR38_3 : aS.eval (.tmp 18) = .pointer (some ⟨b, 0, none⟩) := pS.pre 3 rfl
   exact Does.val (wn _ rfl) (o_ld (eR38_3) (Tryz.isAgg3 _) ((Bk.gr a9 (gr_drew pS.gr)).cell _ rfl)) (Gr.refl _) rfl rfl)
 have co := cn.snoc (n' := 6) rfl (fun vJ _ => vJ = .agg #[.int .i64 ((S.me : Nat) : Int), .int .i64 1]) rfl (fun _ _ _ _ h => h) (fun aS wS pS => by
   have eR38_4 : aS.eval (.tmp 19) = .int .i64 ((S.me : Nat) : Int) := pS.pre 4 rfl
   exact Does.val (wn _ rfl) (o_bd (cells := #[.int .i64 ((S.me : Nat) : Int), .int .i64 1]) (vs := [(0, .int .i64 ((S.me : Nat) : Int)), (1, .int .i64 1)]) (by simp [(eR38_4), ev_const]) (by kernel_rfl)) (Gr.refl _) rfl rfl)
 have cp := co.snoc (n' := 7) rfl (fun vJ _ => vJ = .agg #[.int .i64 (t), .int .i64 (n)]) rfl (fun _ _ _ _ h => h) (fun aS wS pS => by
   exact Does.val (wn _ rfl) (o_ldR ((pS.old 6 rfl).trans (K.n (J.n n2.at_))) (Bk.gr cg (gr_drew pS.gr)) Tryz.underlying49 rfl (by kernel_rfl)) (Gr.refl _) rfl rfl)
 have cq := K.n (J.n (n2.n ca))
 have cr := cp.snoc (n' := 8) rfl (fun vJ _ => vJ = .int .i64 (d)) rfl (fun _ _ _ _ h => h) (fun aS wS pS => by
   exact Does.val (wn _ rfl) (o_mv ((pS.old 3 rfl).trans cq)) (Gr.refl _) rfl rfl)
 have ct := cr.snoc (n' := 9) rfl (fun vJ _ => vJ = .agg #[.string (bs l), .int .i64 ((S.me : Nat) : Int), .int .i64 1, .int .i64 (t), .int .i64 (n), .int .i64 (d), .slice none 0 0, .slice none 0 0]) rfl (fun _ _ _ _ h => h) (fun aS wS pS => by
   have eR38_0 : aS.eval (.tmp 15) = .string (bs l) := pS.pre 0 rfl
   have eR38_5 : aS.eval (.tmp 20) = .agg #[.int .i64 ((S.me : Nat) : Int), .int .i64 1] := pS.pre 5 rfl
   have eR38_6 : aS.eval (.tmp 21) = .agg #[.int .i64 (t), .int .i64 (n)] := pS.pre 6 rfl
   have eR38_7 : aS.eval (.tmp 22) = .int .i64 (d) := pS.pre 7 rfl
   exact Does.val (wn _ rfl) (o_bd (cells := #[.string (bs l), .int .i64 ((S.me : Nat) : Int), .int .i64 1, .int .i64 (t), .int .i64 (n), .int .i64 (d), .slice none 0 0, .slice none 0 0]) (vs := [(0, .string (bs l)), (1, .agg #[.int .i64 ((S.me : Nat) : Int), .int .i64 1]), (2, .agg #[.int .i64 (t), .int .i64 (n)]), (3, .int .i64 (d))]) (by simp [(eR38_0), (eR38_5), (eR38_6), (eR38_7), ev_const]) (by kernel_rfl)) (Gr.refl _) rfl rfl)
 have cu := ct.snoc (n' := 10) rfl (fun vJ wJ => ∃ b : Nat, vJ = .pointer (some ⟨b, 0, none⟩) ∧ cd.heap.size ≤ b ∧ Bk wJ b #[.string (bs []), .int .i64 0, .int .i64 0, .int .i64 0, .int .i64 0, .int .i64 0, .slice none 0 0, .slice none 0 0] 106) rfl (fun _ _ _ g ⟨b, h1, h2, h3⟩ => ⟨b, h1, h2, h3.gr g⟩) (fun aS wS pS => by
   exact Does.alloc (wn _ rfl) (o_al (z := .agg #[.string (bs []), .int .i64 0, .int .i64 0, .int .i64 0, .int .i64 0, .int .i64 0, .slice none 0 0, .slice none 0 0]) (by kernel_rfl)) ⟨_, rfl, pS.gr.size, (New.mk' _ _ _).bk⟩)
 refine cu.run (k := 1) (L := #[true, true, true, true, true, true, true, true, true, true, false]) (by kernel_rfl) (by kernel_rfl) (by kernel_rfl) K.ok (by kernel_rfl) (by kernel_rfl) (fun ap44 fx B => ?_)
 have aZ := gr_drew B.gr
 have cA := a9.gr aZ
 have cB := j.bk.gr aZ
 have cC := bt.trans aZ
 have cD := gb_gr bu aZ
 obtain ⟨o, ep44_9, geb42, bkb42⟩ := B.js 9 rfl
 have ep44_9 : ap44.eval (.tmp 10) = .pointer (some ⟨o, 0, none⟩) := ep44_9
 have aG : b < o := Nat.lt_of_lt_of_le a9.lt geb42
 have ba : aF < o := Nat.lt_of_lt_of_le j.bk.lt geb42
 have bb : w.heap.size ≤ o := Nat.le_trans (bu.size) geb42
 have bc : w.heap.size ≤ o := Nat.le_trans bt.size geb42
 have ep44_8 : ap44.eval (.tmp 23) = .agg #[.string (bs l), .int .i64 ((S.me : Nat) : Int), .int .i64 1, .int .i64 (t), .int .i64 (n), .int .i64 (d), .slice none 0 0, .slice none 0 0] := B.js 8 rfl
 refine t_stR (i := 10) (by kernel_rfl) rfl rfl (wn _ rfl) (o_stR ep44_9 ep44_8 bkb42 (by kernel_rfl) rfl (by first | (simp [Value.oneCell']; done) | (rw [← Array.all_toList]; simp [Value.oneCell']))) bkb42 (fun bz a1 bA => ?_)
 have cE := cA.upd a1 (Nat.ne_of_lt aG)
 have cF := cB.upd a1 (Nat.ne_of_lt ba)
 have cG : Gr w bz := Below.upd cC bc a1
 have cH := gb_upd cD a1 bb
 refine wpAny_done (by kernel_rfl) ?_ _
 refine th_n (ch _ _ (wp_seq_k (fun fy cI => (wp_seq_k (fun fz cJ => (wp_region_lit (sw B.ok (o_ldR ep44_9 bA Tryz.underlying106 rfl (by kernel_rfl)) (fun fA M => ?_))))))))
 refine sc M.ok rfl (wn _ rfl) rfl (o_f1 Tryz.func77 rfl rfl rfl M.at_) ((by have h := vone_any (⟨⟨l, (S.me : Int), 1, t, n, d, [], []⟩, none, 0, none, 0⟩ : VerI) bz (knR_nil _); rw [hone] at h; exact h)) ?_
 rintro _ cK ⟨rfl, aH⟩
 refine ⟨_, rfl, fun fB O => ?_⟩
 have bd := cE.gr aH
 have cL := cF.gr aH
 have cM := bA.gr aH
 have bB := cG.trans aH
 have cO := gb_gr cH aH
 refine sw O.ok (o_as O.at_) (fun fC T => ?_)
 refine wpList_nil (th_n (cJ _ _ (wp_seq_k (fun fD cS => (wp_region_lit (sw T.ok (o_mv T.at_) (fun fE U => ?_)))))))
 refine sw U.ok (o_neq (b := false) U.at_ ev_const (by decide)) (fun fF V => ?_)
 refine wpList_nil (th_n (cS _ _ (wp_cond_false (V.at_) ?_)))
 refine wp_skip (th_n (cI _ _ (wp_seq_k (fun fG cT => (wp_seq_k (fun fH cU => (wp_region_lit ?_)))))))
 have bC := V.n (U.n (T.n (O.n (M.n ((B.old 0 rfl).trans bx)))))
 refine sw V.ok (o_mv bC) (fun fI W => ?_)
 refine sw W.ok (o_nc W.at_) (fun fJ X => ?_)
 refine sw X.ok (o_fa (z := 1) X.at_ Tryz.underlying125 rfl (by kernel_rfl) rfl rfl) (fun fK Y => ?_)
 refine sw Y.ok (o_ld Y.at_ (Tryz.isAgg3 _) (bd.cell _ rfl)) (fun fL Z => ?_)
 refine sw Z.ok (o_eq Z.at_ ev_const (decide_eq_false (show ¬ ((S.made : Nat) : Int) = 1000 by omega))) (fun fM aa => ?_)
 refine wpList_nil (th_n (cU _ _ (wp_cond_false (aa.at_) ?_)))
 refine wp_skip (th_n (cT _ _ (wp_seq_k (fun fO cV => (wp_region_lit ?_)))))
 have bD := aa.n (Z.n (Y.n (X.n (W.n bC))))
 refine sw aa.ok (o_mv bD) (fun fS ab => ?_)
 refine sw ab.ok (o_nc ab.at_) (fun fT ac => ?_)
 refine sw ac.ok (o_fa (z := 1) ac.at_ Tryz.underlying125 rfl (by kernel_rfl) rfl rfl) (fun fU ad => ?_)
 refine sw ad.ok (o_ld ad.at_ (Tryz.isAgg41 _) (bd.cell _ rfl)) (fun fV af => ?_)
 have cW := af.n (ad.n (ac.n (ab.n (aa.n (Z.n (Y.n (X.n (W.n (V.n (U.n (T.n (O.n (M.n ((B.old 1 rfl).trans bv))))))))))))))
 refine sw af.ok (o_mv cW) (fun fW ag => ?_)
 refine sc ag.ok rfl (wn _ rfl) rfl (o_f2 Tryz.func78 rfl rfl rfl (ag.n af.at_) ag.at_) (past_s _ S.L l 0 cK hO.ok hfew (hR.gr0 bB)) ?_
 rintro _ bf ⟨pa, pc, qa, qc, rfl, hk, aI⟩
 obtain ⟨bsk, hkw⟩ := hk
 refine ⟨_, rfl, fun fX aJ => ?_⟩
 have bE := bd.gr aI
 have bF := cL.gr aI
 have bG := cM.gr aI
 have bH := bB.trans aI
 have cX := gb_gr cO aI
 refine sw aJ.ok (o_mv aJ.at_) (fun fY ah => ?_)
 refine sw ah.ok (o_ex ah.at_ rfl) (fun fZ ai => ?_)
 refine sw ai.ok (o_ex (ai.n ah.at_) rfl) (fun f0 aj => ?_)
 refine sal (cs := #[.slice none 0 0, .slice none 0 0]) aj.ok rfl (wn _ rfl) rfl (o_al (z := .agg #[.slice none 0 0, .slice none 0 0]) (by kernel_rfl)) (fun f1 f2 aK a q => ?_)
 have bI := Gr.refl bf
 have cY : b < aK := by rw [a.eq]; exact bE.lt
 have cZ : aF < aK := by rw [a.eq]; exact bF.lt
 have c0 : o < aK := by rw [a.eq]; exact bG.lt
 have c1 : w.heap.size ≤ aK := by rw [a.eq]; exact bH.size
 have c2 : bf.heap.size ≤ aK := by rw [a.eq]; exact bI.size
 have c3 := bE.gr a.gr
 have c4 := bF.gr a.gr
 have c5 := bG.gr a.gr
 have c6 := bH.trans a.gr
 have c7 := bI.trans a.gr
 refine ssR rfl (wn _ rfl) (o_stR q.at_ (q.n (aj.n ai.at_)) a.bk (by kernel_rfl) rfl (by first | (simp [Value.oneCell']; done) | (rw [← Array.all_toList]; simp [Value.oneCell']))) a.bk (fun aL aM c8 => ?_)
 have bJ := c3.upd aM (Nat.ne_of_lt cY)
 have c9 := c4.upd aM (Nat.ne_of_lt cZ)
 have da := c5.upd aM (Nat.ne_of_lt c0)
 have db : Gr w aL := Below.upd c6 c1 aM
 have bK : Gr bf aL := Below.upd c7 c2 aM
 have dc := gb_gr cX bK
 have dd := hkw.gr bK
 refine sw q.ok (o_as (q.n aj.at_)) (fun f3 ak => ?_)
 refine wpList_nil (th_n (cV _ _ (wp_seq_k (fun f4 df => (wp_seq_k (fun f5 dg => (wp_region_lit (sw ak.ok (o_mv ak.at_) (fun f6 al => ?_)))))))))
 refine sw al.ok (o_neq (b := false) al.at_ ev_const (by decide)) (fun f7 am => ?_)
 refine wpList_nil (th_n (dg _ _ (wp_cond_false (am.at_) ?_)))
 refine wp_skip (th_n (df _ _ (wp_seq_k (fun f8 dh => (h_start [o] 11 #[false, false, false, false, false, false, false, false, false, false, false] (by kernel_rfl) rfl rfl ?_)))))
 have S168 := Sx.drew [o] aL
 have an := (Gr.refl aL).drew
 generalize aL.drew = f9 at *
 have di := bJ.gr an
 have dj := c9.gr an
 have bg := da.gr an
 have dk := db.trans an
 have dl := gb_gr dc an
 have dm := dd.gr an
 have bL := am.n (al.n (ak.n (q.n (aj.n (ai.n (ah.n (aJ.n (ag.n (af.n (ad.n (ac.n (ab.n bD))))))))))))
 refine h_take (i := 0) (fuel := 10) am.ok rfl rfl rfl (by kernel_rfl) (by kernel_rfl) (by kernel_rfl) (fun _ _ _ _ _ h => h) (wn _ rfl) (fun x hx => o_mv bL) S168 (fun ga ao => ?_)
 refine h_take (i := 1) (fuel := 9) ao.ok rfl rfl rfl (by kernel_rfl) (by kernel_rfl) (by kernel_rfl) (fun _ _ _ _ _ h => h) (wn _ rfl) (fun x hx => o_nc ao.at_) S168 (fun gb ap => ?_)
 refine h_take (i := 2) (fuel := 8) ap.ok rfl rfl rfl (by kernel_rfl) (by kernel_rfl) (by kernel_rfl) (fun _ _ _ _ _ h => h) (wn _ rfl) (fun x hx => o_fa (z := 1) ap.at_ Tryz.underlying125 rfl (by kernel_rfl) rfl rfl) S168 (fun gc aq => ?_)
 refine h_take (i := 3) (fuel := 7) aq.ok rfl rfl rfl (by kernel_rfl) (by kernel_rfl) (by kernel_rfl) (fun _ _ _ _ _ h => h) (wn _ rfl) (fun x hx => o_ld aq.at_ (Tryz.isAgg3 _) ((Sx.bk hx bJ (by simp <;> omega)).cell _ rfl)) S168 (fun gd ar => ?_)
 refine h_take (i := 4) (fuel := 6) ar.ok rfl rfl rfl (by kernel_rfl) (by kernel_rfl) (by kernel_rfl) (fun _ _ _ _ _ h => h) (wn _ rfl) (fun x hx => o_add (r := ((S.made + 1 : Nat) : Int)) ar.at_ ev_const (by omega) (by omega)) S168 (fun gf au => ?_)
 have dn := au.n (ar.n (aq.n (ap.n (ao.n (am.n (al.n (ak.n q.at_)))))))
 refine h_take (i := 5) (fuel := 5) au.ok rfl rfl rfl (by kernel_rfl) (by kernel_rfl) (by kernel_rfl) (fun _ _ _ _ _ h => h) (wn _ rfl) (fun x hx => o_ldR dn (Sx.bk hx c8 (by simp <;> omega)) Tryz.underlying75 rfl (by kernel_rfl)) S168 (fun gg av => ?_)
 have bh := av.n (au.n (ar.n (aq.n (ap.n (ao.n (am.n (al.n (ak.n (q.n (aj.n (ai.n (ah.n (aJ.n (ag.n (af.n (ad.n (ac.n (ab.n (aa.n (Z.n (Y.n (X.n (W.n (V.n (U.n (T.n (O.n (M.n ep44_9))))))))))))))))))))))))))))
 refine h_take (i := 6) (fuel := 4) av.ok rfl rfl rfl (by kernel_rfl) (by kernel_rfl) (by kernel_rfl) (fun _ _ _ _ _ h => h) (wn _ rfl) (fun x hx => o_fa (z := 2) bh Tryz.underlying106 rfl (by kernel_rfl) rfl rfl) S168 (fun gh u => ?_)
 refine h_take (i := 7) (fuel := 3) u.ok rfl rfl rfl (by kernel_rfl) (by kernel_rfl) (by kernel_rfl) (fun _ _ _ _ _ h => h) (wn _ rfl) (fun x hx => o_fa (z := 1) u.at_ Tryz.underlying51 rfl (by kernel_rfl) rfl rfl) S168 (fun gi A => ?_)
 have dp := A.n (u.n (av.n au.at_))
 refine h_stC (i := 8) (fuel := 2) (by kernel_rfl) rfl rfl (wn _ rfl) (o_st A.at_ dp bg rfl (by kernel_rfl) rfl) bg S168 (by simp) (fun dq aO bM S196 => ?_)
 have dr := di.upd aO (Nat.ne_of_lt aG)
 have ds := dj.upd aO (Nat.ne_of_lt ba)
 have dt : Gr w dq := Below.upd dk bc aO
 have du := gb_upd dl aO bb
 have dv := dm.tks (tks_upd aO bg (by decide))
 refine h_take (i := 9) (fuel := 1) A.ok rfl rfl rfl (by kernel_rfl) (by kernel_rfl) (by kernel_rfl) (fun _ _ _ _ _ h => h) (wn _ rfl) (fun x hx => o_fa (z := 2) (A.n (u.n bh)) Tryz.underlying106 rfl (by kernel_rfl) rfl rfl) S196 (fun gj ax => ?_)
 have dx := ax.n (A.n (u.n av.at_))
 refine h_stP (i := 10) (fuel := 0) (vs := [.slice pa ((ints (formV (pD S.L l))).length) pc, .slice qa ((pairs (formM (pD S.L l))).length) qc]) (cs' := #[.string (bs l), .int .i64 ((S.me : Nat) : Int), .int .i64 ((S.made + 1 : Nat) : Int), .int .i64 (t), .int .i64 (n), .int .i64 (d), .slice pa ((ints (formV (pD S.L l))).length) pc, .slice qa ((pairs (formM (pD S.L l))).length) qc]) (by kernel_rfl) rfl (wn _ rfl) ax.at_ dx (by kernel_rfl) bM rfl (by simp [Value.oneCell']) rfl S196 (by simp) (fun a2 aT bO S211 => ?_)
 have bi := dr.upd aT (Nat.ne_of_lt aG)
 have bS := ds.upd aT (Nat.ne_of_lt ba)
 have bT : Gr w a2 := Below.upd dt bc aT
 have dy := gb_upd du aT bb
 have dz := dv.tks (tks_upd aT bM (by decide))
 refine wpAnyH_done (by kernel_rfl) ?_ _
 refine th_n (dh _ _ (wp_seq_k (fun gk dA => ?_)))
 obtain ⟨c, a3⟩ : ∃ n, n = a2.heap.size := ⟨_, rfl⟩
 have bU : b < c := by rw [a3]; exact bi.lt
 have dB : aF < c := by rw [a3]; exact bS.lt
 have dC : c ≤ a2.heap.size := Nat.le_of_eq a3
 have hz2 := dC
 have hz3 : w.heap.size ≤ c := by rw [a3]; exact bT.size
 have hkP := (dz).rd
 obtain ⟨y, hcell, hyd, hyk⟩ := newI S l t n d pa qa pc qc a2 hkP
 have hyp : putE S.L y.d = 0 := by rw [hyd]; exact hput
 refine reg_start (N := 83) (m := 11) (by kernel_rfl) (fun dD => ?_)
 have bV := ax.n (A.n (u.n (av.n (au.n (ar.n (aq.n (ap.n (ao.n bL))))))))
 have dE := dD.snoc (n' := 1) rfl (fun vJ _ => vJ = .pointer (some ⟨b, 0, none⟩)) rfl (fun _ _ _ _ h => h) (fun aS wS pS => by
   exact Does.val (wn _ rfl) (o_mv ((pS.old 0 rfl).trans bV)) (Gr.refl _) rfl rfl)
 have dF := dE.snoc (n' := 2) rfl (fun vJ _ => vJ = .pointer (some ⟨b, 0, none⟩)) rfl (fun _ _ _ _ h => h) (fun aS wS pS => by
   have eR231_0 : aS.eval (.tmp 59) = .pointer (some ⟨b, 0, none⟩) := pS.pre 0 rfl
   exact Does.val (wn _ rfl) (o_nc (eR231_0)) (Gr.refl _) rfl rfl)
 have dG := dF.snoc (n' := 3) rfl (fun vJ _ => vJ = .pointer (some ⟨b, 4, none⟩)) rfl (fun _ _ _ _ h => h) (fun aS wS pS => by
   have eR231_1 : aS.eval (.tmp 60) = .pointer (some ⟨b, 0, none⟩) := pS.pre 1 rfl
   exact Does.val (wn _ rfl) (o_fa (z := 1) (eR231_1) Tryz.underlying125 rfl (by kernel_rfl) rfl rfl) (Gr.refl _) rfl rfl)
 have dH := dG.snoc (n' := 4) rfl (fun vJ _ => vJ = .slice sa sn sq) rfl (fun _ _ _ _ h => h) (fun aS wS pS => by
   have eR231_2 : aS.eval (.tmp 61) = .pointer (some ⟨b, 4, none⟩) := pS.pre 2 rfl
   exact Does.val (wn _ rfl) (o_ld (eR231_2) (Tryz.isAgg41 _) ((Bk.gr bi (gr_drew pS.gr)).cell _ rfl)) (Gr.refl _) rfl rfl)
 have bW := ax.n (A.n (u.n bh))
 have dI := dH.snoc (n' := 5) rfl (fun vJ _ => vJ = .agg #[.string (bs l), .int .i64 ((S.me : Nat) : Int), .int .i64 ((S.made + 1 : Nat) : Int), .int .i64 (t), .int .i64 (n), .int .i64 (d), .slice pa ((ints (formV (pD S.L l))).length) pc, .slice qa ((pairs (formM (pD S.L l))).length) qc]) rfl (fun _ _ _ _ h => h) (fun aS wS pS => by
   exact Does.val (wn _ rfl) (o_ldR ((pS.old 10 rfl).trans bW) (Bk.gr bO (gr_drew pS.gr)) Tryz.underlying106 rfl (by kernel_rfl)) (Gr.refl _) rfl rfl)
 have dJ := dI.snoc (n' := 6) rfl (fun vJ wJ => ∃ (ra : Option Addr) (rn : Nat) (rc : Nat), vJ = .tuple #[.slice ra rn rc, .int .i64 0] ∧ (ResV c wJ (.slice ra rn rc) (putL S.L y.d))) rfl (fun _ _ _ g ⟨ra, rn, rc, h, C⟩ => ⟨ra, rn, rc, h, C.gr0 g⟩) (fun aS wS pS => by
   have eR231_3 : aS.eval (.tmp 62) = .slice sa sn sq := pS.pre 3 rfl
   have eR231_4 : aS.eval (.tmp 63) = .agg #[.string (bs l), .int .i64 ((S.me : Nat) : Int), .int .i64 ((S.made + 1 : Nat) : Int), .int .i64 (t), .int .i64 (n), .int .i64 (d), .slice pa ((ints (formV (pD S.L l))).length) pc, .slice qa ((pairs (formM (pD S.L l))).length) qc] := pS.pre 4 rfl
   exact Does.call (wn _ rfl) (o_f2 Tryz.func79 rfl rfl rfl (eR231_3) (eR231_4)) ((by rw [hcell]; exact put_b _ S.L y 0 c wS (Nat.le_trans hz2 (gr_drew pS.gr).size) hyp (hR.gr0 (bT.trans (gr_drew pS.gr))) (KnR.gr hyk (gr_drew pS.gr)))) (by rintro _ w2 ⟨ra, rn, rc, rfl, hr, g⟩; exact ⟨_, rfl, g, ⟨ra, rn, rc, rfl, hr⟩⟩) rfl)
 have dK := dJ.snoc (n' := 7) rfl (fun vJ wJ => ∃ (ra : Option Addr) (rn : Nat) (rc : Nat), vJ = .tuple #[.slice ra rn rc, .int .i64 0] ∧ (ResV c wJ (.slice ra rn rc) (putL S.L y.d))) rfl (fun _ _ _ g ⟨ra, rn, rc, h, C⟩ => ⟨ra, rn, rc, h, C.gr0 g⟩) (fun aS wS pS => by
   obtain ⟨ra, rn, rc, eR231_5, hr⟩ := pS.pre 5 rfl
   have eR231_5 : aS.eval (.tmp 64) = .tuple #[.slice ra rn rc, .int .i64 0] := eR231_5
   exact Does.val (wn _ rfl) (o_mv (eR231_5)) (Gr.refl _) ⟨ra, rn, rc, rfl, hr⟩ rfl)
 have dL := dK.snoc (n' := 8) rfl (fun vJ wJ => ∃ (ra : Option Addr) (rn : Nat) (rc : Nat), vJ = .slice ra rn rc ∧ (ResV c wJ (.slice ra rn rc) (putL S.L y.d))) rfl (fun _ _ _ g ⟨ra, rn, rc, h, C⟩ => ⟨ra, rn, rc, h, C.gr0 g⟩) (fun aS wS pS => by
   obtain ⟨ra, rn, rc, eR231_6, hr⟩ := pS.pre 6 rfl
   have eR231_6 : aS.eval (.tmp 58) = .tuple #[.slice ra rn rc, .int .i64 0] := eR231_6
   exact Does.val (wn _ rfl) (o_ex (eR231_6) rfl) (Gr.refl _) ⟨ra, rn, rc, rfl, hr⟩ rfl)
 have dM := dL.snoc (n' := 9) rfl (fun vJ _ => vJ = .int .i64 0) rfl (fun _ _ _ _ h => h) (fun aS wS pS => by
   obtain ⟨ra, rn, rc, eR231_6, hr⟩ := pS.pre 6 rfl
   have eR231_6 : aS.eval (.tmp 58) = .tuple #[.slice ra rn rc, .int .i64 0] := eR231_6
   exact Does.val (wn _ rfl) (o_ex (eR231_6) rfl) (Gr.refl _) rfl rfl)
 have dO := dM.snoc (n' := 10) rfl (fun vJ wJ => ∃ (ra : Option Addr) (rn : Nat) (rc : Nat), vJ = .slice ra rn rc ∧ (ResV c wJ (.slice ra rn rc) (putL S.L y.d))) rfl (fun _ _ _ g ⟨ra, rn, rc, h, C⟩ => ⟨ra, rn, rc, h, C.gr0 g⟩) (fun aS wS pS => by
   obtain ⟨ra, rn, rc, eR231_7, hr⟩ := pS.pre 7 rfl
   have eR231_7 : aS.eval (.tmp 65) = .slice ra rn rc := eR231_7
   exact Does.val (wn _ rfl) (o_as (eR231_7)) (Gr.refl _) ⟨ra, rn, rc, rfl, hr⟩ rfl)
 have dS := dO.snoc (n' := 11) rfl (fun vJ _ => vJ = .int .i64 0) rfl (fun _ _ _ _ h => h) (fun aS wS pS => by
   have eR231_8 : aS.eval (.tmp 66) = .int .i64 0 := pS.pre 8 rfl
   exact Does.val (wn _ rfl) (o_as (eR231_8)) (Gr.refl _) rfl rfl)
 refine dS.run (k := 0) (L := #[true, true, true, true, true, true, true, true, true, true, true]) (by kernel_rfl) (by kernel_rfl) (by kernel_rfl) ax.ok (by kernel_rfl) (by kernel_rfl) (fun ap235 bj D => ?_)
 have a4 := gr_drew D.gr
 have dT := bi.gr a4
 have dU := bS.gr a4
 have bX := bO.gr a4
 have dV := gb_gr dy a4
 obtain ⟨ra, rn, rc, ep235_9, hr⟩ := D.js 9 rfl
 have ep235_9 : ap235.eval (.tmp 14) = .slice ra rn rc := ep235_9
 refine wpAny_done (by kernel_rfl) ?_ _
 refine th_n (dA _ _ (wp_seq_k (fun gm dW => (wp_seq_k (fun gn dX => (wp_region_lit ?_))))))
 have ep235_10 : ap235.eval (.tmp 13) = .int .i64 0 := D.js 10 rfl
 refine sw D.ok (o_mv ep235_10) (fun go ay => ?_)
 refine sw ay.ok (o_neq (b := false) ay.at_ ev_const (by decide)) (fun gp az => ?_)
 refine wpList_nil (th_n (dX _ _ (wp_cond_false (az.at_) ?_)))
 refine wp_skip (th_n (dW _ _ (wp_seq_k (fun gq dY => (h_start [b] 12 #[false, false, false, false, false, false, false, false, false, false, false, false] (by kernel_rfl) rfl rfl ?_)))))
 have S254 := Sx.drew [b] bj
 have aU := (Gr.refl bj).drew
 generalize bj.drew = gs at *
 have bY := dT.gr aU
 have dZ := dU.gr aU
 have d0 := bX.gr aU
 have d1 := gb_gr dV aU
 have d2 := hr.gr0 aU
 have bZ := az.n (ay.n ((D.old 0 rfl).trans bV))
 refine h_take (i := 0) (fuel := 11) az.ok rfl rfl rfl (by kernel_rfl) (by kernel_rfl) (by kernel_rfl) (fun _ _ _ _ _ h => h) (wn _ rfl) (fun x hx => o_mv bZ) S254 (fun gt aA => ?_)
 refine h_take (i := 1) (fuel := 10) aA.ok rfl rfl rfl (by kernel_rfl) (by kernel_rfl) (by kernel_rfl) (fun _ _ _ _ _ h => h) (wn _ rfl) (fun x hx => o_mv (aA.n bZ)) S254 (fun gu aB => ?_)
 have d3 := aB.n (aA.n (az.n (ay.n ep235_9)))
 refine h_take (i := 2) (fuel := 9) aB.ok rfl rfl rfl (by kernel_rfl) (by kernel_rfl) (by kernel_rfl) (fun _ _ _ _ _ h => h) (wn _ rfl) (fun x hx => o_mv d3) S254 (fun gx aC => ?_)
 have b0 := aC.n (aB.n (aA.n (az.n (ay.n ((D.old 10 rfl).trans bW)))))
 refine h_take (i := 3) (fuel := 8) aC.ok rfl rfl rfl (by kernel_rfl) (by kernel_rfl) (by kernel_rfl) (fun _ _ _ _ _ h => h) (wn _ rfl) (fun x hx => o_fa (z := 2) b0 Tryz.underlying106 rfl (by kernel_rfl) rfl rfl) S254 (fun gy E => ?_)
 refine h_take (i := 4) (fuel := 7) E.ok rfl rfl rfl (by kernel_rfl) (by kernel_rfl) (by kernel_rfl) (fun _ _ _ _ _ h => h) (wn _ rfl) (fun x hx => o_fa (z := 1) E.at_ Tryz.underlying51 rfl (by kernel_rfl) rfl rfl) S254 (fun gz F => ?_)
 refine h_take (i := 5) (fuel := 6) F.ok rfl rfl rfl (by kernel_rfl) (by kernel_rfl) (by kernel_rfl) (fun _ _ _ _ _ h => h) (wn _ rfl) (fun x hx => o_ld F.at_ (Tryz.isAgg3 _) ((Sx.bk hx bX (by simp <;> omega)).cell _ rfl)) S254 (fun gA G => ?_)
 have d4 := G.n (F.n (E.n (aC.n (aB.n aA.at_))))
 refine h_take (i := 6) (fuel := 5) G.ok rfl rfl rfl (by kernel_rfl) (by kernel_rfl) (by kernel_rfl) (fun _ _ _ _ _ h => h) (wn _ rfl) (fun x hx => o_nc d4) S254 (fun gB H => ?_)
 refine h_take (i := 7) (fuel := 4) H.ok rfl rfl rfl (by kernel_rfl) (by kernel_rfl) (by kernel_rfl) (fun _ _ _ _ _ h => h) (wn _ rfl) (fun x hx => o_fa (z := 1) H.at_ Tryz.underlying125 rfl (by kernel_rfl) rfl rfl) S254 (fun gC I => ?_)
 have d5 := I.n (H.n (G.n (F.n (E.n aC.at_))))
 refine h_stC (i := 8) (fuel := 3) (by kernel_rfl) rfl rfl (wn _ rfl) (o_st I.at_ d5 bY rfl (by kernel_rfl) rfl) bY S254 (by simp) (fun gD a6 b1 S284 => ?_)
 have d6 := dZ.upd a6 (Nat.ne_of_gt a8)
 have d7 := d0.upd a6 (Nat.ne_of_gt aG)
 have d8 := gb_gb d1 a6.grown
 have d9 := d2.updL a6 bU
 have fb := I.n (H.n (G.n (F.n (E.n (aC.n aB.at_)))))
 refine h_take (i := 9) (fuel := 2) I.ok rfl rfl rfl (by kernel_rfl) (by kernel_rfl) (by kernel_rfl) (fun _ _ _ _ _ h => h) (wn _ rfl) (fun x hx => o_nc fb) S284 (fun gE aV => ?_)
 refine h_take (i := 10) (fuel := 1) aV.ok rfl rfl rfl (by kernel_rfl) (by kernel_rfl) (by kernel_rfl) (fun _ _ _ _ _ h => h) (wn _ rfl) (fun x hx => o_fa (z := 1) aV.at_ Tryz.underlying125 rfl (by kernel_rfl) rfl rfl) S284 (fun gF aW => ?_)
 have ff := aW.n (aV.n (I.n (H.n G.at_)))
 refine h_stC (i := 11) (fuel := 0) (by kernel_rfl) rfl rfl (wn _ rfl) (o_st aW.at_ ff b1 rfl (by kernel_rfl) rfl) b1 S284 (by simp) (fun gG a7 fg S302 => ?_)
 have b2 := d6.upd a7 (Nat.ne_of_gt a8)
 have fh := d7.upd a7 (Nat.ne_of_gt aG)
 have fi := gb_gb d8 a7.grown
 have fj := d9.updL a7 bU
 refine wpAnyH_done (by kernel_rfl) ?_ _
 refine th_n (dY _ _ (wp_seq_k (fun gH fk => (wp_region_lit ?_))))
 have fl := aW.n (aV.n (I.n (H.n (G.n (F.n (E.n b0))))))
 refine sw aW.ok (o_fa (z := 2) fl Tryz.underlying106 rfl (by kernel_rfl) rfl rfl) (fun gI bl => ?_)
 refine sw bl.ok (o_ldA (k := 1) (cs := [.int .i64 ((S.me : Nat) : Int), .int .i64 ((S.made + 1 : Nat) : Int)]) bl.at_ (bk_part fh rfl) Tryz.underlying51 rfl (by kernel_rfl)) (fun gJ bm => ?_)
 have b4 := bm.n (bl.n (aW.n (aV.n (I.n (H.n (G.n (F.n (E.n (aC.n (aB.n (aA.n (az.n (ay.n ((D.old 8 rfl).trans (ax.n (A.n (u.n (av.n (au.n (ar.n (aq.n (ap.n (ao.n (am.n (al.n (ak.n (q.n (aj.n (ai.n (ah.n (aJ.n (ag.n (af.n (ad.n (ac.n (ab.n (aa.n (Z.n (Y.n (X.n (W.n (V.n (U.n (T.n (O.n (M.n ((B.old 8 rfl).trans (K.n J.at_))))))))))))))))))))))))))))))))))))))))))))))))
 refine ssR rfl (wn _ rfl) (o_stR b4 bm.at_ b2 (by kernel_rfl) rfl (by first | (simp [Value.oneCell']; done) | (rw [← Array.all_toList]; simp [Value.oneCell']))) b2 (fun gK bn fm => ?_)
 have b5 := fg.upd bn (Nat.ne_of_lt a8)
 have bo := gb_upd fi bn cf
 have b6 := fj.updL bn dB
 refine sw bm.ok (o_as ev_const) (fun gL bp => ?_)
 refine wpList_nil (th_n (fk _ _ (wp_ret (ret2 bp.ok rfl (⟨_, _, (bp.n b4), ld_row fm Tryz.underlying51 rfl (by kernel_rfl)⟩) (bp.at_) ⟨rfl, ⟨fa, fn, fc, ra, rn, rc, la, lc, b5, hF.tk (hS0.tk bo).p, (hyd ▸ b6).any, hP.tkw (hS0.tk bo)⟩, ⟨fa, fn, fc, sa, sn, sq, la, lc, ra, rn, rc, hb, b5, (hyd ▸ b6).lower hz3⟩, bo⟩))))
theorem want1_any (x : VerI) (b : Nat) (S : SiD) (p2 p5 : Nat) (ua : Option Addr) (un uc : Nat) (U : Nat → Nat) (w : World) (hS : SiteAt w b S) (h2 : Bk w p2 #[.pointer (some ⟨b, 0, none⟩)] 28) (h5 : Bk w p5 #[.slice ua un uc] 22) (hU : FS w (.slice ua un uc) U) :
  Calls Tryz.prog 69 #[.agg #[.string (bs x.d.id), .int .i64 (x.d.s), .int .i64 (x.d.c), .int .i64 (x.d.t), .int .i64 (x.d.n), .int .i64 (x.d.b), .slice x.va x.d.V.length x.vc, .slice x.ma x.d.M.length x.mc], .pointer (some ⟨p2, 0, none⟩), .pointer (some ⟨p5, 0, none⟩)] w fun e w' => e = .returned (.bool (wantB S U x.d)) ∧ Gr w w' := by
 refine enter (N := 19) Tryz.func69 rfl rfl rfl (fun r ok0 q => ?_)
 have F : r.eval (.tmp 0) = .agg #[.string (bs x.d.id), .int .i64 (x.d.s), .int .i64 (x.d.c), .int .i64 (x.d.t), .int .i64 (x.d.n), .int .i64 (x.d.b), .slice x.va x.d.V.length x.vc, .slice x.ma x.d.M.length x.mc] := q 0 _ rfl
 have B : r.eval (.tmp 1) = .pointer (some ⟨p2, 0, none⟩) := q 1 _ rfl
 have G : r.eval (.tmp 2) = .pointer (some ⟨p5, 0, none⟩) := q 2 _ rfl
 clear q
 have H := Gr.refl w
 obtain ⟨fa, fn, fc, sa, sn, sq, la, lc, hb, hF, hR, hP⟩ := hS
 refine wp_seq_k (fun K1 I => (wp_region_lit (sal (cs := #[.string (bs x.d.id), .int .i64 (x.d.s), .int .i64 (x.d.c), .int .i64 (x.d.t), .int .i64 (x.d.n), .int .i64 (x.d.b), .slice x.va x.d.V.length x.vc, .slice x.ma x.d.M.length x.mc]) ok0 rfl (wn _ rfl) rfl (o_box F) (fun aJ w4 a l o => ?_))))
 have u := H.trans l.gr
 have C := hb.gr l.gr
 have D := h2.gr l.gr
 have J := h5.gr l.gr
 refine sw o.ok (o_as ev_const) (fun aL j => ?_)
 refine wpList_nil (th_n (I _ _ (wp_seq_k (fun aM E => ?_))))
 by_cases hm : x.d.s = ((S.me : Nat) : Int)
 ·have K := hm
  refine reg_start (N := 19) (m := 15) (by kernel_rfl) (fun O => ?_)
  have T := O.snoc (n' := 1) rfl (fun vJ _ => vJ = .pointer (some ⟨a, 1, none⟩)) rfl (fun _ _ _ _ h => h) (fun aS wS pS => by
    exact Does.val (wn _ rfl) (o_fa (z := 2) ((pS.old 3 rfl).trans (j.n o.at_)) Tryz.underlying106 rfl (by kernel_rfl) rfl rfl) (Gr.refl _) rfl rfl)
  have W := T.snoc (n' := 2) rfl (fun vJ _ => vJ = .pointer (some ⟨a, 1, none⟩)) rfl (fun _ _ _ _ h => h) (fun aS wS pS => by
    have eR19_0 : aS.eval (.tmp 5) = .pointer (some ⟨a, 1, none⟩) := pS.pre 0 rfl
    exact Does.val (wn _ rfl) (o_fa (z := 1) (eR19_0) Tryz.underlying51 rfl (by kernel_rfl) rfl rfl) (Gr.refl _) rfl rfl)
  have X := W.snoc (n' := 3) rfl (fun vJ _ => vJ = .int .i64 (x.d.s)) rfl (fun _ _ _ _ h => h) (fun aS wS pS => by
    have eR19_1 : aS.eval (.tmp 6) = .pointer (some ⟨a, 1, none⟩) := pS.pre 1 rfl
    exact Does.val (wn _ rfl) (o_ld (eR19_1) (Tryz.isAgg3 _) ((Bk.gr l.bk (gr_drew pS.gr)).cell _ rfl)) (Gr.refl _) rfl rfl)
  have Y := X.snoc (n' := 4) rfl (fun vJ _ => vJ = .pointer (some ⟨b, 0, none⟩)) rfl (fun _ _ _ _ h => h) (fun aS wS pS => by
    exact Does.val (wn _ rfl) (o_ld ((pS.old 1 rfl).trans (j.n (o.n B))) (Tryz.isAgg28 _) ((Bk.gr D (gr_drew pS.gr)).cell _ rfl)) (Gr.refl _) rfl rfl)
  have Z := Y.snoc (n' := 5) rfl (fun vJ _ => vJ = .pointer (some ⟨b, 0, none⟩)) rfl (fun _ _ _ _ h => h) (fun aS wS pS => by
    have eR19_3 : aS.eval (.tmp 8) = .pointer (some ⟨b, 0, none⟩) := pS.pre 3 rfl
    exact Does.val (wn _ rfl) (o_nc (eR19_3)) (Gr.refl _) rfl rfl)
  have aa := Z.snoc (n' := 6) rfl (fun vJ _ => vJ = .pointer (some ⟨b, 0, none⟩)) rfl (fun _ _ _ _ h => h) (fun aS wS pS => by
    have eR19_4 : aS.eval (.tmp 9) = .pointer (some ⟨b, 0, none⟩) := pS.pre 4 rfl
    exact Does.val (wn _ rfl) (o_fa (z := 1) (eR19_4) Tryz.underlying125 rfl (by kernel_rfl) rfl rfl) (Gr.refl _) rfl rfl)
  have ab := aa.snoc (n' := 7) rfl (fun vJ _ => vJ = .int .i64 ((S.me : Nat) : Int)) rfl (fun _ _ _ _ h => h) (fun aS wS pS => by
    have eR19_5 : aS.eval (.tmp 10) = .pointer (some ⟨b, 0, none⟩) := pS.pre 5 rfl
    exact Does.val (wn _ rfl) (o_ld (eR19_5) (Tryz.isAgg3 _) ((Bk.gr C (gr_drew pS.gr)).cell _ rfl)) (Gr.refl _) rfl rfl)
  have ac := ab.snoc (n' := 8) rfl (fun vJ _ => vJ = .bool true) rfl (fun _ _ _ _ h => h) (fun aS wS pS => by
    have eR19_2 : aS.eval (.tmp 7) = .int .i64 (x.d.s) := pS.pre 2 rfl
    have eR19_6 : aS.eval (.tmp 11) = .int .i64 ((S.me : Nat) : Int) := pS.pre 6 rfl
    exact Does.val (wn _ rfl) (o_eq (eR19_2) (eR19_6) (decide_eq_true hm)) (Gr.refl _) rfl rfl)
  have ad := ac.snoc (n' := 9) rfl (fun vJ _ => vJ = .bool true) rfl (fun _ _ _ _ h => h) (fun aS wS pS => by
    have eR19_7 : aS.eval (.tmp 12) = .bool true := pS.pre 7 rfl
    exact Does.val (wn _ rfl) (o_mv (eR19_7)) (Gr.refl _) rfl rfl)
  have af := ad.snoc (n' := 10) rfl (fun vJ _ => vJ = undef) rfl (fun _ _ _ _ h => h) (fun aS wS pS => by
    have eR19_8 : aS.eval (.tmp 13) = .bool true := pS.pre 8 rfl
    exact Does.not (wgF rfl (yl 8 true rfl eR19_8) rfl) rfl rfl)
  have ag := af.snoc (n' := 11) rfl (fun vJ _ => vJ = undef) rfl (fun _ _ _ _ h => h) (fun aS wS pS => by
    have eR19_8 : aS.eval (.tmp 13) = .bool true := pS.pre 8 rfl
    exact Does.not (wgF rfl (yl 8 true rfl eR19_8) rfl) rfl rfl)
  have ah := ag.snoc (n' := 12) rfl (fun vJ _ => vJ = undef) rfl (fun _ _ _ _ h => h) (fun aS wS pS => by
    have eR19_8 : aS.eval (.tmp 13) = .bool true := pS.pre 8 rfl
    exact Does.not (wgF rfl (yl 8 true rfl eR19_8) rfl) rfl rfl)
  have ai := ah.snoc (n' := 13) rfl (fun vJ _ => vJ = undef) rfl (fun _ _ _ _ h => h) (fun aS wS pS => by
    have eR19_8 : aS.eval (.tmp 13) = .bool true := pS.pre 8 rfl
    exact Does.not (wgF rfl (yl 8 true rfl eR19_8) rfl) rfl rfl)
  have aj := ai.snoc (n' := 14) rfl (fun vJ _ => vJ = .bool true) rfl (fun _ _ _ _ h => h) (fun aS wS pS => by
    have eR19_8 : aS.eval (.tmp 13) = .bool true := pS.pre 8 rfl
    exact Does.val (wn _ rfl) (o_pkT (eR19_8) ev_const) (Gr.refl _) rfl rfl)
  have ak := aj.snoc (n' := 15) rfl (fun vJ _ => vJ = .bool true) rfl (fun _ _ _ _ h => h) (fun aS wS pS => by
    have eR19_13 : aS.eval (.tmp 18) = .bool true := pS.pre 13 rfl
    exact Does.val (wn _ rfl) (o_as (eR19_13)) (Gr.refl _) rfl rfl)
  refine ak.run (k := 0) (L := #[true, true, true, true, true, true, true, true, true, true, true, true, true, true, true]) (by kernel_rfl) (by kernel_rfl) (by kernel_rfl) j.ok (by kernel_rfl) (by kernel_rfl) (fun ap21 aO y => ?_)
  have al := gr_drew y.gr
  have am := u.trans al
  refine wpAny_done (by kernel_rfl) ?_ _
  refine th_n (E _ _ (wp_ret ?_))
  have ep21_14 : ap21.eval (.tmp 4) = .bool true := y.js 14 rfl
  exact ret1 y.ok rfl (ep21_14) ⟨by unfold wantB; rw [decide_eq_true hm, Bool.true_or], am⟩
 ·have K := hm
  refine reg_start (N := 19) (m := 15) (by kernel_rfl) (fun an => ?_)
  have ao := an.snoc (n' := 1) rfl (fun vJ _ => vJ = .pointer (some ⟨a, 1, none⟩)) rfl (fun _ _ _ _ h => h) (fun aS wS pS => by
    exact Does.val (wn _ rfl) (o_fa (z := 2) ((pS.old 3 rfl).trans (j.n o.at_)) Tryz.underlying106 rfl (by kernel_rfl) rfl rfl) (Gr.refl _) rfl rfl)
  have ap := ao.snoc (n' := 2) rfl (fun vJ _ => vJ = .pointer (some ⟨a, 1, none⟩)) rfl (fun _ _ _ _ h => h) (fun aS wS pS => by
    have eR30_0 : aS.eval (.tmp 5) = .pointer (some ⟨a, 1, none⟩) := pS.pre 0 rfl
    exact Does.val (wn _ rfl) (o_fa (z := 1) (eR30_0) Tryz.underlying51 rfl (by kernel_rfl) rfl rfl) (Gr.refl _) rfl rfl)
  have aq := ap.snoc (n' := 3) rfl (fun vJ _ => vJ = .int .i64 (x.d.s)) rfl (fun _ _ _ _ h => h) (fun aS wS pS => by
    have eR30_1 : aS.eval (.tmp 6) = .pointer (some ⟨a, 1, none⟩) := pS.pre 1 rfl
    exact Does.val (wn _ rfl) (o_ld (eR30_1) (Tryz.isAgg3 _) ((Bk.gr l.bk (gr_drew pS.gr)).cell _ rfl)) (Gr.refl _) rfl rfl)
  have ar := aq.snoc (n' := 4) rfl (fun vJ _ => vJ = .pointer (some ⟨b, 0, none⟩)) rfl (fun _ _ _ _ h => h) (fun aS wS pS => by
    exact Does.val (wn _ rfl) (o_ld ((pS.old 1 rfl).trans (j.n (o.n B))) (Tryz.isAgg28 _) ((Bk.gr D (gr_drew pS.gr)).cell _ rfl)) (Gr.refl _) rfl rfl)
  have au := ar.snoc (n' := 5) rfl (fun vJ _ => vJ = .pointer (some ⟨b, 0, none⟩)) rfl (fun _ _ _ _ h => h) (fun aS wS pS => by
    have eR30_3 : aS.eval (.tmp 8) = .pointer (some ⟨b, 0, none⟩) := pS.pre 3 rfl
    exact Does.val (wn _ rfl) (o_nc (eR30_3)) (Gr.refl _) rfl rfl)
  have av := au.snoc (n' := 6) rfl (fun vJ _ => vJ = .pointer (some ⟨b, 0, none⟩)) rfl (fun _ _ _ _ h => h) (fun aS wS pS => by
    have eR30_4 : aS.eval (.tmp 9) = .pointer (some ⟨b, 0, none⟩) := pS.pre 4 rfl
    exact Does.val (wn _ rfl) (o_fa (z := 1) (eR30_4) Tryz.underlying125 rfl (by kernel_rfl) rfl rfl) (Gr.refl _) rfl rfl)
  have ax := av.snoc (n' := 7) rfl (fun vJ _ => vJ = .int .i64 ((S.me : Nat) : Int)) rfl (fun _ _ _ _ h => h) (fun aS wS pS => by
    have eR30_5 : aS.eval (.tmp 10) = .pointer (some ⟨b, 0, none⟩) := pS.pre 5 rfl
    exact Does.val (wn _ rfl) (o_ld (eR30_5) (Tryz.isAgg3 _) ((Bk.gr C (gr_drew pS.gr)).cell _ rfl)) (Gr.refl _) rfl rfl)
  have ay := ax.snoc (n' := 8) rfl (fun vJ _ => vJ = .bool false) rfl (fun _ _ _ _ h => h) (fun aS wS pS => by
    have eR30_2 : aS.eval (.tmp 7) = .int .i64 (x.d.s) := pS.pre 2 rfl
    have eR30_6 : aS.eval (.tmp 11) = .int .i64 ((S.me : Nat) : Int) := pS.pre 6 rfl
    exact Does.val (wn _ rfl) (o_eq (eR30_2) (eR30_6) (decide_eq_false hm)) (Gr.refl _) rfl rfl)
  have az := ay.snoc (n' := 9) rfl (fun vJ _ => vJ = .bool false) rfl (fun _ _ _ _ h => h) (fun aS wS pS => by
    have eR30_7 : aS.eval (.tmp 12) = .bool false := pS.pre 7 rfl
    exact Does.val (wn _ rfl) (o_mv (eR30_7)) (Gr.refl _) rfl rfl)
  have aA := az.snoc (n' := 10) rfl (fun vJ _ => vJ = .slice ua un uc) rfl (fun _ _ _ _ h => h) (fun aS wS pS => by
    have eR30_8 : aS.eval (.tmp 13) = .bool false := pS.pre 8 rfl
    exact Does.val (wgT rfl (yl 8 false rfl eR30_8) rfl) (o_ld ((pS.old 2 rfl).trans (j.n (o.n G))) (Tryz.isAgg22 _) ((Bk.gr J (gr_drew pS.gr)).cell _ rfl)) (Gr.refl _) rfl rfl)
  have aB := aA.snoc (n' := 11) rfl (fun vJ _ => vJ = .pointer (some ⟨a, 3, none⟩)) rfl (fun _ _ _ _ h => h) (fun aS wS pS => by
    have eR30_8 : aS.eval (.tmp 13) = .bool false := pS.pre 8 rfl
    exact Does.val (wgT rfl (yl 8 false rfl eR30_8) rfl) (o_fa (z := 2) ((pS.old 3 rfl).trans (j.n o.at_)) Tryz.underlying106 rfl (by kernel_rfl) rfl rfl) (Gr.refl _) rfl rfl)
  have aC := aB.snoc (n' := 12) rfl (fun vJ _ => vJ = .agg #[.int .i64 (x.d.t), .int .i64 (x.d.n)]) rfl (fun _ _ _ _ h => h) (fun aS wS pS => by
    have eR30_8 : aS.eval (.tmp 13) = .bool false := pS.pre 8 rfl
    have eR30_10 : aS.eval (.tmp 15) = .pointer (some ⟨a, 3, none⟩) := pS.pre 10 rfl
    exact Does.val (wgT rfl (yl 8 false rfl eR30_8) rfl) (o_ldA (k := 3) (cs := [.int .i64 (x.d.t), .int .i64 (x.d.n)]) (eR30_10) (bk_part (Bk.gr l.bk (gr_drew pS.gr)) rfl) Tryz.underlying49 rfl (by kernel_rfl)) (Gr.refl _) rfl rfl)
  have aD := aC.snoc (n' := 13) rfl (fun vJ _ => vJ = .bool (bitT U x.d.t x.d.n)) rfl (fun _ _ _ _ h => h) (fun aS wS pS => by
    have eR30_8 : aS.eval (.tmp 13) = .bool false := pS.pre 8 rfl
    have eR30_9 : aS.eval (.tmp 14) = .slice ua un uc := pS.pre 9 rfl
    have eR30_11 : aS.eval (.tmp 16) = .agg #[.int .i64 (x.d.t), .int .i64 (x.d.n)] := pS.pre 11 rfl
    exact Does.call (wgT rfl (yl 8 false rfl eR30_8) rfl) (o_f2 Tryz.func70 rfl rfl rfl (eR30_9) (eR30_11)) (sihas_any _ U x.d.t x.d.n wS (hU.gr (u.trans (gr_drew pS.gr)))) (by rintro _ w2 ⟨rfl, g⟩; exact ⟨_, rfl, g, rfl⟩) rfl)
  have aE := aD.snoc (n' := 14) rfl (fun vJ _ => vJ = .bool (bitT U x.d.t x.d.n)) rfl (fun _ _ _ _ h => h) (fun aS wS pS => by
    have eR30_8 : aS.eval (.tmp 13) = .bool false := pS.pre 8 rfl
    have eR30_12 : aS.eval (.tmp 17) = .bool (bitT U x.d.t x.d.n) := pS.pre 12 rfl
    exact Does.val (wn _ rfl) (o_pkF (eR30_8) (eR30_12)) (Gr.refl _) rfl rfl)
  have aF := aE.snoc (n' := 15) rfl (fun vJ _ => vJ = .bool (bitT U x.d.t x.d.n)) rfl (fun _ _ _ _ h => h) (fun aS wS pS => by
    have eR30_13 : aS.eval (.tmp 18) = .bool (bitT U x.d.t x.d.n) := pS.pre 13 rfl
    exact Does.val (wn _ rfl) (o_as (eR30_13)) (Gr.refl _) rfl rfl)
  refine aF.run (k := 0) (L := #[true, true, true, true, true, true, true, true, true, true, true, true, true, true, true]) (by kernel_rfl) (by kernel_rfl) (by kernel_rfl) j.ok (by kernel_rfl) (by kernel_rfl) (fun ap32 aU A => ?_)
  have aG := gr_drew A.gr
  have aH := u.trans aG
  refine wpAny_done (by kernel_rfl) ?_ _
  refine th_n (E _ _ (wp_ret ?_))
  have ep32_14 : ap32.eval (.tmp 4) = .bool (bitT U x.d.t x.d.n) := A.js 14 rfl
  exact ret1 A.ok rfl (ep32_14) ⟨by unfold wantB; rw [decide_eq_false hm, Bool.false_or], aH⟩
theorem swant_ok (b : Nat) (S : SiD) (fv : Value) (U : Nat → Nat) (w0 w : World) (hG : Gr w0 w) (hB : w0.heap.size ≤ b) (hS : SiteAt w b S) (hO : SiOk S) (hf : FS w fv U) :
  Calls Tryz.prog 17 #[.pointer (some ⟨b, 0, none⟩), fv] w fun e w' => e = .returned (.int .i64 0) ∧ ∃ F : List PtX, F.length ≤ S.P.length ∧ NarP F U S.P ∧ SiteAt w' b ⟨S.me, S.made, S.stamp + 1, U, S.L.filter (wantB S U), F⟩ ∧ w.grownBy w' (some b) := by
 refine enter (N := 49) Tryz.func17 rfl rfl rfl (fun a0 ok0 h0 => ?_)
 have a9 : a0.eval (.tmp 0) = .pointer (some ⟨b, 0, none⟩) := h0 0 _ rfl
 have ba : a0.eval (.tmp 1) = fv := h0 1 _ rfl
 clear h0
 have hS0 := hS
 obtain ⟨fa, fn, fc, sa, sn, sq, la, lc, hb, hF, hR, hP⟩ := hS
 have hlt : b < w.heap.size := hb.lt
 have hst := hO.st
 have hA0 := Gr.refl w
 refine wp_seq_k (fun K1 bb => (wp_region_lit (sal (cs := #[.pointer (some ⟨b, 0, none⟩)]) ok0 rfl (wn _ rfl) rfl (o_box a9) (fun cD w4 l D n2 => ?_))))
 have l7 : b < l := by rw [D.eq]; exact hb.lt
 have bd := hb.gr D.gr
 have aH := hA0.trans D.gr
 have bf := gb_gr (gb_self : w.grownBy w (some b)) D.gr
 refine sw n2.ok (o_as ev_const) (fun cE aq => ?_)
 refine wpList_nil (th_n (bb _ _ (wp_seq_k (fun cF bg => (wp_region_lit (sw aq.ok (o_mv (aq.n (n2.n ba))) (fun cG ar => ?_)))))))
 refine sc ar.ok rfl (wn _ rfl) rfl (o_f1 Tryz.func68 rfl rfl rfl ar.at_) (copyf_any fv U w4 (hf.gr aH)) ?_
 rintro _ au ⟨ua, un, uc, rfl, hu, O⟩
 refine ⟨_, rfl, fun cH av => ?_⟩
 have aI := bd.gr O
 have aJ := D.bk.gr O
 have aK := aH.trans O
 have bh := gb_gr bf O
 refine sw av.ok (o_mv av.at_) (fun cI T => ?_)
 refine sw T.ok (o_ex T.at_ rfl) (fun cJ V => ?_)
 refine sw V.ok (o_ex (V.n T.at_) rfl) (fun cK W => ?_)
 refine sal (cs := #[.slice none 0 0]) W.ok rfl (wn _ rfl) rfl (o_al (z := .slice none 0 0) (by kernel_rfl)) (fun cL cM c a q => ?_)
 have aL := Gr.refl au
 have ax : b < c := by rw [a.eq]; exact aI.lt
 have bi : l < c := by rw [a.eq]; exact aJ.lt
 have bj : w.heap.size ≤ c := by rw [a.eq]; exact aK.size
 have bl : au.heap.size ≤ c := by rw [a.eq]; exact aL.size
 have bm := aI.gr a.gr
 have bn := aJ.gr a.gr
 have bo := aK.trans a.gr
 have bp := aL.trans a.gr
 refine ssC rfl (wn _ rfl) (o_st q.at_ (q.n (W.n V.at_)) a.bk rfl (by kernel_rfl) rfl) a.bk (fun aM X aO => ?_)
 have aT := bm.upd X (Nat.ne_of_lt ax)
 have Y := bn.upd X (Nat.ne_of_lt bi)
 have aU : Gr w aM := Below.upd bo bj X
 have aV : Gr au aM := Below.upd bp bl X
 have bq := gb_gr bh aV
 have aW := hu.tk (tk_gr aV)
 refine sw q.ok (o_as (q.n W.at_)) (fun cO Z => ?_)
 refine wpList_nil (th_n (bg _ _ (wp_seq_k (fun cS br => (wp_seq_k (fun cT bt => (wp_region_lit (sw Z.ok (o_mv Z.at_) (fun cU aa => ?_)))))))))
 refine sw aa.ok (o_neq (b := false) aa.at_ ev_const (by decide)) (fun cV ab => ?_)
 refine wpList_nil (th_n (bt _ _ (wp_cond_false (ab.at_) ?_)))
 refine wp_skip (th_n (br _ _ (wp_seq_k (fun cW bu => (wp_region_lit ?_)))))
 have ac := ab.n (aa.n (Z.n (q.n (W.n (V.n (T.n (av.n (ar.n (aq.n n2.at_)))))))))
 have aX := ab.n (aa.n (Z.n q.at_))
 refine sw ab.ok (o_mf (fs := []) (cs := [.pointer (some ⟨l, 0, none⟩), .pointer (some ⟨c, 0, none⟩)]) (by simp) (by simp [ac, aX])) (fun cX t => ?_)
 refine sw t.ok (o_as t.at_) (fun cY u => ?_)
 refine wpList_nil (th_n (bu _ _ (wp_seq_k (fun cZ bv => (reg_start (N := 49) (m := 9) (by kernel_rfl) (fun bx => ?_))))))
 have bz := bx.snoc (n' := 1) rfl (fun vJ _ => vJ = .pointer (some ⟨b, 0, none⟩)) rfl (fun _ _ _ _ h => h) (fun aS wS pS => by
   exact Does.val (wn _ rfl) (o_ld ((pS.old 2 rfl).trans (u.n (t.n ac))) (Tryz.isAgg28 _) ((Bk.gr Y (gr_drew pS.gr)).cell _ rfl)) (Gr.refl _) rfl rfl)
 have bA := bz.snoc (n' := 2) rfl (fun vJ _ => vJ = .pointer (some ⟨b, 0, none⟩)) rfl (fun _ _ _ _ h => h) (fun aS wS pS => by
   exact Does.val (wn _ rfl) (o_ld ((pS.old 2 rfl).trans (u.n (t.n ac))) (Tryz.isAgg28 _) ((Bk.gr Y (gr_drew pS.gr)).cell _ rfl)) (Gr.refl _) rfl rfl)
 have bB := bA.snoc (n' := 3) rfl (fun vJ _ => vJ = .pointer (some ⟨b, 0, none⟩)) rfl (fun _ _ _ _ h => h) (fun aS wS pS => by
   have eR73_1 : aS.eval (.tmp 18) = .pointer (some ⟨b, 0, none⟩) := pS.pre 1 rfl
   exact Does.val (wn _ rfl) (o_nc (eR73_1)) (Gr.refl _) rfl rfl)
 have bC := bB.snoc (n' := 4) rfl (fun vJ _ => vJ = .pointer (some ⟨b, 4, none⟩)) rfl (fun _ _ _ _ h => h) (fun aS wS pS => by
   have eR73_2 : aS.eval (.tmp 19) = .pointer (some ⟨b, 0, none⟩) := pS.pre 2 rfl
   exact Does.val (wn _ rfl) (o_fa (z := 1) (eR73_2) Tryz.underlying125 rfl (by kernel_rfl) rfl rfl) (Gr.refl _) rfl rfl)
 have bD := bC.snoc (n' := 5) rfl (fun vJ _ => vJ = .slice sa sn sq) rfl (fun _ _ _ _ h => h) (fun aS wS pS => by
   have eR73_3 : aS.eval (.tmp 20) = .pointer (some ⟨b, 4, none⟩) := pS.pre 3 rfl
   exact Does.val (wn _ rfl) (o_ld (eR73_3) (Tryz.isAgg41 _) ((Bk.gr aT (gr_drew pS.gr)).cell _ rfl)) (Gr.refl _) rfl rfl)
 have bE := bD.snoc (n' := 6) rfl (fun vJ _ => vJ = .func (.func 69) #[] #[.pointer (some ⟨l, 0, none⟩), .pointer (some ⟨c, 0, none⟩)]) rfl (fun _ _ _ _ h => h) (fun aS wS pS => by
   exact Does.val (wn _ rfl) (o_mv ((pS.old 7 rfl).trans u.at_)) (Gr.refl _) rfl rfl)
 have bF := bE.snoc (n' := 7) rfl (fun vJ wJ => ∃ (ra : Option Addr) (rn : Nat) (rc : Nat), vJ = .slice ra rn rc ∧ (ResV 0 wJ (.slice ra rn rc) (S.L.filter (wantB S U)))) rfl (fun _ _ _ g ⟨ra, rn, rc, h, n⟩ => ⟨ra, rn, rc, h, n.gr0 g⟩) (fun aS wS pS => by
   have eR73_4 : aS.eval (.tmp 21) = .slice sa sn sq := pS.pre 4 rfl
   have eR73_5 : aS.eval (.tmp 22) = .func (.func 69) #[] #[.pointer (some ⟨l, 0, none⟩), .pointer (some ⟨c, 0, none⟩)] := pS.pre 5 rfl
   exact Does.call (wn _ rfl) (o_f2 Tryz.func71 rfl rfl rfl (eR73_4) (eR73_5)) (only_b _ S.L 69 [.pointer (some ⟨l, 0, none⟩), .pointer (some ⟨c, 0, none⟩)] (wantB S U) 0 wS ⟨_, Tryz.func69, rfl, rfl⟩ hO.ok (hR.gr0 (aU.trans (gr_drew pS.gr))) (fun x _ w1 g1 => want1_any x b S l c ua un uc U w1 (hS0.gr ((aU.trans (gr_drew pS.gr)).trans g1)) (Bk.gr Y ((gr_drew pS.gr).trans g1)) (Bk.gr aO ((gr_drew pS.gr).trans g1)) (FO.fs40 (aW.gr0 ((gr_drew pS.gr).trans g1))))) (by rintro _ w2 ⟨ra, rn, rc, rfl, hr, g⟩; exact ⟨_, rfl, g, ⟨ra, rn, rc, rfl, hr⟩⟩) rfl)
 have bH := bF.snoc (n' := 8) rfl (fun vJ _ => vJ = .pointer (some ⟨b, 0, none⟩)) rfl (fun _ _ _ _ h => h) (fun aS wS pS => by
   have eR73_0 : aS.eval (.tmp 17) = .pointer (some ⟨b, 0, none⟩) := pS.pre 0 rfl
   exact Does.val (wn _ rfl) (o_nc (eR73_0)) (Gr.refl _) rfl rfl)
 have bI := bH.snoc (n' := 9) rfl (fun vJ _ => vJ = .pointer (some ⟨b, 4, none⟩)) rfl (fun _ _ _ _ h => h) (fun aS wS pS => by
   have eR73_7 : aS.eval (.tmp 24) = .pointer (some ⟨b, 0, none⟩) := pS.pre 7 rfl
   exact Does.val (wn _ rfl) (o_fa (z := 1) (eR73_7) Tryz.underlying125 rfl (by kernel_rfl) rfl rfl) (Gr.refl _) rfl rfl)
 refine bI.run (k := 1) (L := #[true, true, true, true, true, true, true, true, true, false]) (by kernel_rfl) (by kernel_rfl) (by kernel_rfl) u.ok (by kernel_rfl) (by kernel_rfl) (fun ap75 c0 y => ?_)
 have E := gr_drew y.gr
 have af := aT.gr E
 have bJ := Y.gr E
 have bK := aO.gr E
 have bL := gb_gr bq E
 have bM := aW.tk (tk_gr E)
 obtain ⟨ra, rn, rc, ep75_6, hr⟩ := y.js 6 rfl
 have ep75_6 : ap75.eval (.tmp 23) = .slice ra rn rc := ep75_6
 have ep75_8 : ap75.eval (.tmp 25) = .pointer (some ⟨b, 4, none⟩) := y.js 8 rfl
 refine t_stC (i := 9) (by kernel_rfl) rfl rfl (wn _ rfl) (o_st ep75_8 ep75_6 af rfl (by kernel_rfl) rfl) af (fun c1 G aZ => ?_)
 have ay := bJ.upd G (Nat.ne_of_gt l7)
 have a1 := bK.upd G (Nat.ne_of_gt ax)
 have a2 := gb_gb bL G.grown
 have a3 := bM.tk (tkw_upd G af (by decide)).p
 have bO := hr.tkw (tkw_upd G af (by decide))
 refine wpAny_done (by kernel_rfl) ?_ _
 refine th_n (bv _ _ (wp_seq_k (fun c2 bS => ?_)))
 have hgbQ := a2
 refine regh_start (N := 49) [0, 1, 2, 3, 4, 5, 6, 7, 8, 9, 10, 11] (by kernel_rfl) (fun bT => ?_)
 have ag := (y.old 2 rfl).trans (u.n (t.n ac))
 have bU := bT.snoc (n' := 1) rfl (fun vJ _ => vJ = .pointer (some ⟨b, 0, none⟩)) rfl (fun _ _ _ _ h => h) (fun aS wS pS => by
   exact Does.val (wn _ rfl) (o_ld ((pS.old 2 rfl).trans ag) (Tryz.isAgg28 _) ((Bk.gr ay (gr_drew pS.gr)).cell _ rfl)) (Gr.refl _) rfl rfl)
 have bV := bU.snoc (n' := 2) rfl (fun vJ _ => vJ = .pointer (some ⟨b, 0, none⟩)) rfl (fun _ _ _ _ h => h) (fun aS wS pS => by
   exact Does.val (wn _ rfl) (o_ld ((pS.old 2 rfl).trans ag) (Tryz.isAgg28 _) ((Bk.gr ay (gr_drew pS.gr)).cell _ rfl)) (Gr.refl _) rfl rfl)
 have bW := bV.snoc (n' := 3) rfl (fun vJ _ => vJ = .pointer (some ⟨b, 0, none⟩)) rfl (fun _ _ _ _ h => h) (fun aS wS pS => by
   have eR97_1 : aS.eval (.tmp 28) = .pointer (some ⟨b, 0, none⟩) := pS.pre 1 rfl
   exact Does.val (wn _ rfl) (o_nc (eR97_1)) (Gr.refl _) rfl rfl)
 have bX := bW.snoc (n' := 4) rfl (fun vJ _ => vJ = .pointer (some ⟨b, 5, none⟩)) rfl (fun _ _ _ _ h => h) (fun aS wS pS => by
   have eR97_2 : aS.eval (.tmp 29) = .pointer (some ⟨b, 0, none⟩) := pS.pre 2 rfl
   exact Does.val (wn _ rfl) (o_fa (z := 1) (eR97_2) Tryz.underlying125 rfl (by kernel_rfl) rfl rfl) (Gr.refl _) rfl rfl)
 have bY := bX.snoc (n' := 5) rfl (fun vJ _ => vJ = .slice la S.P.length lc) rfl (fun _ _ _ _ h => h) (fun aS wS pS => by
   have eR97_3 : aS.eval (.tmp 30) = .pointer (some ⟨b, 5, none⟩) := pS.pre 3 rfl
   exact Does.val (wn _ rfl) (o_ld (eR97_3) (Tryz.isAgg32 _) ((Bk.gr aZ (gr_drew pS.gr)).cell _ rfl)) (Gr.refl _) rfl rfl)
 have a4 := (y.old 5 rfl).trans (u.n (t.n aX))
 have bZ := bY.snoc (n' := 6) rfl (fun vJ _ => vJ = .slice ua un uc) rfl (fun _ _ _ _ h => h) (fun aS wS pS => by
   exact Does.val (wn _ rfl) (o_ld ((pS.old 5 rfl).trans a4) (Tryz.isAgg22 _) ((Bk.gr a1 (gr_drew pS.gr)).cell _ rfl)) (Gr.refl _) rfl rfl)
 have b0 := bZ.snoc (n' := 7) rfl (fun vJ wJ => ∃ (F : List PtX) (na : Option Addr) (nc : Nat), vJ = .tuple #[.slice na (List.length F) nc, .int .i64 0] ∧ (F.length ≤ S.P.length) ∧ (NarP F U S.P) ∧ (PL 0 wJ (.slice na (List.length F) nc) F)) rfl (fun _ _ _ g ⟨F, na, nc, h, n, H, I⟩ => ⟨F, na, nc, h, n, H, I.gr g⟩) (fun aS wS pS => by
   have eR97_4 : aS.eval (.tmp 31) = .slice la S.P.length lc := pS.pre 4 rfl
   have eR97_5 : aS.eval (.tmp 32) = .slice ua un uc := pS.pre 5 rfl
   exact Does.call (wn _ rfl) (o_f2 Tryz.func72 rfl rfl rfl (eR97_4) (eR97_5)) (pnar_b _ S.P _ U wS (by have := hO.few; omega) (hP.tkw (hS0.tk (gb_gr hgbQ (gr_drew pS.gr)))) (FO.fs40 (a3.gr0 (gr_drew pS.gr)))) (by rintro _ w2 ⟨F, na, nc, rfl, hFl, hFn, hFp, g⟩; exact ⟨_, rfl, g, ⟨F, na, nc, rfl, hFl, hFn, hFp⟩⟩) rfl)
 have b1 := b0.snoc (n' := 8) rfl (fun vJ wJ => ∃ (F : List PtX) (na : Option Addr) (nc : Nat), vJ = .tuple #[.slice na (List.length F) nc, .int .i64 0] ∧ (F.length ≤ S.P.length) ∧ (NarP F U S.P) ∧ (PL 0 wJ (.slice na (List.length F) nc) F)) rfl (fun _ _ _ g ⟨F, na, nc, h, n, H, I⟩ => ⟨F, na, nc, h, n, H, I.gr g⟩) (fun aS wS pS => by
   obtain ⟨F, na, nc, eR97_6, hFl, hFn, hFp⟩ := pS.pre 6 rfl
   have eR97_6 : aS.eval (.tmp 33) = .tuple #[.slice na (List.length F) nc, .int .i64 0] := eR97_6
   exact Does.val (wn _ rfl) (o_mv (eR97_6)) (Gr.refl _) ⟨F, na, nc, rfl, hFl, hFn, hFp⟩ rfl)
 have b2 := b1.snoc (n' := 9) rfl (fun vJ wJ => ∃ (F : List PtX) (na : Option Addr) (nc : Nat), vJ = .slice na (List.length F) nc ∧ (F.length ≤ S.P.length) ∧ (NarP F U S.P) ∧ (PL 0 wJ (.slice na (List.length F) nc) F)) rfl (fun _ _ _ g ⟨F, na, nc, h, n, H, I⟩ => ⟨F, na, nc, h, n, H, I.gr g⟩) (fun aS wS pS => by
   obtain ⟨F, na, nc, eR97_7, hFl, hFn, hFp⟩ := pS.pre 7 rfl
   have eR97_7 : aS.eval (.tmp 26) = .tuple #[.slice na (List.length F) nc, .int .i64 0] := eR97_7
   exact Does.val (wn _ rfl) (o_ex (eR97_7) rfl) (Gr.refl _) ⟨F, na, nc, rfl, hFl, hFn, hFp⟩ rfl)
 have b4 := b2.snoc (n' := 10) rfl (fun vJ _ => vJ = .int .i64 0) rfl (fun _ _ _ _ h => h) (fun aS wS pS => by
   obtain ⟨F, na, nc, eR97_7, hFl, hFn, hFp⟩ := pS.pre 7 rfl
   have eR97_7 : aS.eval (.tmp 26) = .tuple #[.slice na (List.length F) nc, .int .i64 0] := eR97_7
   exact Does.val (wn _ rfl) (o_ex (eR97_7) rfl) (Gr.refl _) rfl rfl)
 have b5 := b4.snoc (n' := 11) rfl (fun vJ _ => vJ = .pointer (some ⟨b, 0, none⟩)) rfl (fun _ _ _ _ h => h) (fun aS wS pS => by
   have eR97_0 : aS.eval (.tmp 27) = .pointer (some ⟨b, 0, none⟩) := pS.pre 0 rfl
   exact Does.val (wn _ rfl) (o_nc (eR97_0)) (Gr.refl _) rfl rfl)
 have b6 := b5.snoc (n' := 12) rfl (fun vJ _ => vJ = .pointer (some ⟨b, 5, none⟩)) rfl (fun _ _ _ _ h => h) (fun aS wS pS => by
   have eR97_10 : aS.eval (.tmp 36) = .pointer (some ⟨b, 0, none⟩) := pS.pre 10 rfl
   exact Does.val (wn _ rfl) (o_fa (z := 1) (eR97_10) Tryz.underlying125 rfl (by kernel_rfl) rfl rfl) (Gr.refl _) rfl rfl)
 have b7 := b6.skip (n' := 13) rfl (by kernel_rfl)
 refine b7.runE (e := 9) (j := 12) (de := 35) (v1 := .int .i64 0) (L0 := #[true, true, true, true, true, true, true, true, true, true, true, true, false]) (L1 := #[true, true, true, true, true, true, true, true, true, false, true, true, false]) (by kernel_rfl) (by kernel_rfl) (by kernel_rfl) (by kernel_rfl) (by kernel_rfl) y.ok (by kernel_rfl) (by kernel_rfl) (by kernel_rfl) (by kernel_rfl) (by kernel_rfl) (by kernel_rfl) (by kernel_rfl) (by kernel_rfl) rfl rfl rfl rfl rfl (fun _ => wn _ rfl) (fun _ => wn _ rfl) (by kernel_rfl) (fun v w h => h) (fun ap101 c6 o => ?_)
 have A := gr_drew o.gr
 have J := aZ.gr A
 have b8 := ay.gr A
 have b9 := a1.gr A
 have ca := gb_gr a2 A
 have cb := a3.tk (tk_gr A)
 have cc := bO.tkw (tkw_gr A)
 obtain ⟨F, na, nc, ep101_8, hFl, hFn, hFp⟩ := o.js 8 rfl rfl
 have ep101_8 : ap101.eval (.tmp 34) = .slice na (List.length F) nc := ep101_8
 obtain ⟨FL, naL, ncL, eLp101, -, -, -⟩ := o.js 7 rfl rfl
 refine ⟨b, 5, .slice na (List.length F) nc, #[.int .i64 ((S.me : Nat) : Int), .int .i64 ((S.made : Nat) : Int), .int .i64 ((S.stamp : Nat) : Int), .slice fa fn fc, .slice ra rn rc, .slice la S.P.length lc], 125, J, fun w1 => o_ex eLp101 rfl, ?_, ?_⟩
 ·intro aq111 a6
  have ep101_11 : ap101.eval (.tmp 37) = .pointer (some ⟨b, 5, none⟩) := o.js 11 rfl rfl
  exact o_st ((a6 37 rfl).trans ep101_11) ((a6 34 rfl).trans ep101_8) J rfl (by kernel_rfl) rfl
 intro c7 c8 ah B K
 have a7 := b8.upd B (Nat.ne_of_gt l7)
 have cd := b9.upd B (Nat.ne_of_gt ax)
 have cf := gb_gb ca B.grown
 have cg := cb.tk (tkw_upd B J (by decide)).p
 have ch := cc.tkw (tkw_upd B J (by decide))
 have ci := hFp.tkw (tkw_upd B J (by decide))
 refine wpAny_done (by kernel_rfl) ?_ _
 refine th_n (bS _ _ (wp_seq_k (fun c9 cj => (wp_region_lit (sw ah.ok (o_ld (ah.n ((o.old 2 rfl).trans ag)) (Tryz.isAgg28 _) (a7.cell _ rfl)) (fun da ai => ?_))))))
 have ck := ai.n (ah.n ((o.old 5 rfl).trans a4))
 refine sw ai.ok (o_ld ck (Tryz.isAgg22 _) (cd.cell _ rfl)) (fun db aj => ?_)
 refine sw aj.ok (o_nc (aj.n ai.at_)) (fun dc ak => ?_)
 refine sw ak.ok (o_fa (z := 1) ak.at_ Tryz.underlying125 rfl (by kernel_rfl) rfl rfl) (fun dd al => ?_)
 refine ssC rfl (wn _ rfl) (o_st al.at_ (al.n (ak.n aj.at_)) K rfl (by kernel_rfl) rfl) K (fun df M C => ?_)
 have cl := a7.upd M (Nat.ne_of_gt l7)
 have cm := gb_gb cf M.grown
 have cn := cg.tk (tkw_upd M K (by decide)).p
 have co := ch.tkw (tkw_upd M K (by decide))
 have cp := ci.tkw (tkw_upd M K (by decide))
 refine wpList_nil (th_n (cj _ _ (wp_seq_k (fun dg cq => (wp_region_lit ?_)))))
 have cr := al.n (ak.n (aj.n (ai.n (ah.n ((o.old 2 rfl).trans ag)))))
 refine sw al.ok (o_ld cr (Tryz.isAgg28 _) (cl.cell _ rfl)) (fun dh az => ?_)
 refine sw az.ok (o_nc az.at_) (fun di aA => ?_)
 refine sw aA.ok (o_fa (z := 1) aA.at_ Tryz.underlying125 rfl (by kernel_rfl) rfl rfl) (fun dj aB => ?_)
 refine sw aB.ok (o_ld aB.at_ (Tryz.isAgg3 _) (C.cell _ rfl)) (fun dk aC => ?_)
 refine sw aC.ok (o_add (r := ((S.stamp + 1 : Nat) : Int)) aC.at_ ev_const (by omega) (by omega)) (fun dl aD => ?_)
 have ct := aD.n (aC.n (aB.n (aA.n az.at_)))
 refine sw aD.ok (o_nc ct) (fun dm aE => ?_)
 refine sw aE.ok (o_fa (z := 1) aE.at_ Tryz.underlying125 rfl (by kernel_rfl) rfl rfl) (fun dn aF => ?_)
 refine ssC rfl (wn _ rfl) (o_st aF.at_ (aF.n (aE.n aD.at_)) C rfl (by kernel_rfl) rfl) C (fun dp am cu => ?_)
 have cx := gb_gb cm am.grown
 have cy := cn.tk (tkw_upd am C (by decide)).p
 have cz := co.tkw (tkw_upd am C (by decide))
 have cA := cp.tkw (tkw_upd am C (by decide))
 refine wpList_nil (th_n (cq _ _ (wp_seq_k (fun dq cB => (wp_region_lit (sw aF.ok (o_as ev_const) (fun dr a8 => ?_)))))))
 refine wpList_nil (th_n (cB _ _ (wp_ret (ret1 a8.ok rfl (a8.at_) ⟨rfl, F, hFl, hFn, ⟨ua, un, uc, ra, rn, rc, na, nc, cu, FO.any cy, cz, cA⟩, cx⟩))))
end Go.Proofs.YtglbnggkkjhokaaGreat
/- Site: Give. -/
namespace Rm
open Go Go.RowKit Gx
def encGn (x : VerI) : List Value := [.string (bs x.d.id), .slice x.va x.d.V.length x.vc, .slice x.ma x.d.M.length x.mc]
theorem encGn_ok : EncOk encGn 3 := ⟨fun x => rfl, fun x u hu => by
 simp [encGn] at hu
 rcases hu with rfl | rfl | rfl <;> rfl⟩
end Rm
namespace Go.Proofs.YtglbnggkkjhokaaGreat
open Go.RowKit Rm Gx
def ResK (base : Nat) (w : World) (u : Value) (K : List VerI) : Prop := w.ownsRow base 106 8 u K.length (flatE encVr K) ∧ OwnsVr base w K
theorem ResV.k {base : Nat} {w : World} {u : Value} {L : List VerD} (h : ResV base w u L) : ∃ K, K.map VerI.d = L ∧ ResK base w u K := by
 obtain ⟨R, h1, h2, h3⟩ := h
 exact ⟨R, h1, h2, h3⟩
theorem ResK.tkw {base : Nat} {w w' : World} {u : Value} {K : List VerI} (h : ResK base w u K) (k : TkW w w') : ResK base w' u K := ⟨ow_tkw h.1 k (by decide), h.2.tk k.s⟩
theorem ResK.any {base : Nat} {w : World} {u : Value} {K : List VerI} (h : ResK base w u K) : ResK 0 w u K := ⟨ow_any h.1, h.2.base (Nat.zero_le _)⟩
theorem OwnsVr.gr0 {base : Nat} {w w' : World} {K : List VerI} (h : OwnsVr base w K) (g : Gr w w') : OwnsVr base w' K := h.tk (tks_gr g)
theorem OwnsVr.updL {base b : Nat} {w w' : World} {K : List VerI} (h : OwnsVr base w K) (u : Upd w w' b) (hb : b < base) : OwnsVr base w' K := fun x hx => by
 obtain ⟨v, m, e1, e2, e3⟩ := h x hx
 exact ⟨v, m, e1, e2, e3.updL u hb⟩
theorem ResK.gr0 {base : Nat} {w w' : World} {u : Value} {K : List VerI} (h : ResK base w u K) (g : Gr w w') : ResK base w' u K := ⟨ow_gr h.1 g, h.2.gr0 g⟩
theorem ResK.updL {base b : Nat} {w w' : World} {u : Value} {K : List VerI} (h : ResK base w u K) (up : Upd w w' b) (hb : b < base) : ResK base w' u K := ⟨ow_upd h.1 up hb, h.2.updL up hb⟩
theorem ResK.gone {base b2 n : Nat} {w w' : World} {u v : Value} {K : List VerI} {xs : List Value} (h : ResK base w u K) (ho : w.ownsRow b2 77 3 v n xs) (g : w.grownBy w' v.ownBlock) : ResK base w' u K := ⟨ow_grown h.1 ho g (by decide), h.2.tk (tks_grown ho g (by decide))⟩
def GL (base : Nat) (w : World) (v : Value) (K : List VerI) : Prop := w.ownsRow base 77 3 v K.length (flatE encGn K) ∧ OwnsVr base w K
theorem GL.tkw {base : Nat} {w w' : World} {v : Value} {K : List VerI} (h : GL base w v K) (k : TkW w w') : GL base w' v K := ⟨ow_tkw h.1 k (by decide), h.2.tk k.s⟩
def giveB (U : Nat → Nat) (F : List PtX) (v : VerD) : Bool := bitT U v.t v.n && !hasV F v.t v.n v.s v.c
def goneB (U : Nat → Nat) (v : VerD) : Bool := !bitT U v.t v.n
def NarS (E : List PtX) (U : Nat → Nat) (S : SiD) : Prop := ∀ t n s c, t < 16 → n < 32 → inR s c → hasP E t n s c = ((U t).testBit n && sees S t n s c)
theorem pnar_s (v : Value) (F : List PtX) (fv : Value) (U : Nat → Nat) (S : SiD) (w : World) (hl : F.length ≤ S.P.length + 1) (hS : S.P.length ≤ 29) (hFs : Sees F S) (hK : PL 0 w v F) (hf : FS w fv U) :
  Calls Tryz.prog 72 #[v, fv] w fun e w' => ∃ (E : List PtX) (a : Option Addr) (c : Nat), e = .returned (.tuple #[.slice a E.length c, .int .i64 0]) ∧ E.length ≤ S.P.length + 1 ∧ NarS E U S ∧ PL 0 w' (.slice a E.length c) E ∧ Gr w w' := by
 refine (pnar_b v F fv U w (by omega) hK hf).mono ?_
 rintro e w' ⟨E, a, c, rfl, h1, h2, h3, g⟩
 exact ⟨E, a, c, rfl, by omega, fun t n s k p1 p2 p3 => by rw [h2 t n s k p1 p2 p3, hFs t n s k p1 p2 p3], h3, g⟩
theorem only_r (u : Value) (L : List VerD) (f : FuncId) (caps : List Value) (q : VerD → Bool) (base base2 : Nat) (w : World) (hz : base2 ≤ w.heap.size) (hf : FnOk Tryz.prog f) (hL : OkS L) (hu : ResV base w u L)
  (hc : ∀ x : VerI, x.d ∈ L → ∀ w1, Gr w w1 → Calls Tryz.prog f (.agg #[.string (bs x.d.id), .int .i64 (x.d.s), .int .i64 (x.d.c), .int .i64 (x.d.t), .int .i64 (x.d.n), .int .i64 (x.d.b), .slice x.va x.d.V.length x.vc, .slice x.ma x.d.M.length x.mc] :: caps).toArray w1 fun e w2 => e = .returned (.bool (q x.d)) ∧ Gr w1 w2) :
  Calls Tryz.prog 71 #[u, .func (.func f) #[] caps.toArray] w fun e w' => ∃ (K : List VerI) (a : Option Addr) (c : Nat), e = .returned (.slice a K.length c) ∧ K.map VerI.d = L.filter q ∧ ResK base2 w' (.slice a K.length c) K ∧ Gr w w' := by
 refine (only_any u L f caps q base w hf hL hu hc).mono ?_
 rintro e w' ⟨a, n, c, rfl, h, -, g⟩
 obtain ⟨K, h1, h2⟩ := (h.lower hz).k
 obtain ⟨a', c', e', -⟩ := ow_form h2.1
 rw [e'] at h2 ⊢
 exact ⟨K, a', c', rfl, h1, h2, g⟩
theorem pcheck_pl (v : Value) (F : List PtX) (w : World) (hl : F.length ≤ 30) (h : PL 0 w v F) : Calls Tryz.prog 116 #[v] w fun e w' => e = .returned (.int .i64 0) ∧ Gr w w' := by
 obtain ⟨a, c, rfl, -, -, h1, h2⟩ := h.rd
 exact pcheck_ok F a c w hl h1 h2
theorem checkAsk_ok (m2 s2 : Nat) (ua ja : Option Addr) (un uc jc : Nat) (F : List PtX) (U : Nat → Nat) (hm2 : m2 < 5) (hFl : F.length ≤ 30) (w : World) (hU : FO 0 16 w (.slice ua un uc) U) (hF : PL 0 w (.slice ja (List.length F) jc) F) :
  Calls Tryz.prog 88 #[.agg #[.int .i64 (m2 : Int), .int .i64 (s2 : Int), .slice ua un uc, .slice ja (List.length F) jc]] w fun e w' => e = .returned (.int .i64 0) ∧ Gr w w' := by
 refine enter (N := 22) Tryz.func88 rfl rfl rfl (fun X ok0 H => ?_)
 have Y : X.eval (.tmp 0) = .agg #[.int .i64 (m2 : Int), .int .i64 (s2 : Int), .slice ua un uc, .slice ja (List.length F) jc] := H 0 _ rfl
 clear H
 have Z := Gr.refl w
 refine wp_seq_k (fun K1 aa => (wp_region_lit (sal (cs := #[.int .i64 (m2 : Int), .int .i64 (s2 : Int), .slice ua un uc, .slice ja (List.length F) jc]) ok0 rfl (wn _ rfl) rfl (o_box Y) (fun ar w4 b3 j l => ?_))))
 have G7 := Z.trans j.gr
 refine sw l.ok (o_as ev_const) (fun av n => ?_)
 refine wpList_nil (th_n (aa _ _ (wp_seq_k (fun K9 ad => (wp_seq_k (fun ay af => (wp_region_lit (sw n.ok (o_fa (z := 1) (n.n l.at_) Tryz.underlying34 rfl (by kernel_rfl) rfl rfl) (fun az o => ?_)))))))))
 refine sw o.ok (o_ld o.at_ (Tryz.isAgg3 _) (j.bk.cell _ rfl)) (fun aA q => ?_)
 refine sc q.ok rfl (wn _ rfl) rfl (o_f1 Tryz.func67 rfl rfl rfl q.at_) (isSite_ok m2 hm2 w4) ?_
 rintro _ aB ⟨rfl, I⟩
 refine ⟨_, rfl, fun aC r => ?_⟩
 have J := G7.trans I
 have t := j.bk.gr I
 refine sw r.ok (o_not r.at_ rfl) (fun aD u => ?_)
 refine sw u.ok (o_mv u.at_) (fun aE a => ?_)
 have K := a.n (u.n (r.n (q.n (o.n (n.n l.at_)))))
 refine sv a.ok rfl (wgT rfl (yl 4 false rfl a.at_) rfl) rfl (o_fa (z := 1) K Tryz.underlying34 rfl (by kernel_rfl) rfl rfl) (fun aF c => ?_)
 refine sv c.ok rfl (wgT rfl (yl 4 false rfl (c.n a.at_)) rfl) rfl (o_ld c.at_ (Tryz.isAgg3 _) (t.cell _ rfl)) (fun aG g => ?_)
 refine sv g.ok rfl (wgT rfl (yl 4 false rfl (g.n (c.n a.at_))) rfl) rfl (o_lss g.at_ ev_const (decide_eq_false (show ¬ (s2 : Int) < 0 by omega))) (fun aH h => ?_)
 have ag := h.n (g.n (c.n a.at_))
 refine sw h.ok (o_pkF ag h.at_) (fun aI y => ?_)
 refine wpList_nil (th_n (af _ _ (wp_cond_false (y.at_) ?_)))
 refine wp_skip (th_n (ad _ _ (wp_seq_k (fun aJ ah => (wp_seq_k (fun aK ai => (wp_region_lit ?_)))))))
 have L := y.n (h.n (g.n (c.n K)))
 refine sw y.ok (o_fa (z := 1) L Tryz.underlying34 rfl (by kernel_rfl) rfl rfl) (fun aL A => ?_)
 refine sw A.ok (o_ld A.at_ (Tryz.isAgg22 _) (t.cell _ rfl)) (fun aM B => ?_)
 refine sc B.ok rfl (wn _ rfl) rfl (o_f1 Tryz.func50 rfl rfl rfl B.at_) (fcheck_ok (FO.fs40 (hU.gr0 J))) ?_
 rintro _ aj ⟨rfl, M⟩
 refine ⟨_, rfl, fun aO C => ?_⟩
 have O := J.trans M
 have ak := t.gr M
 refine sw C.ok (o_as C.at_) (fun aS D => ?_)
 refine wpList_nil (th_n (ai _ _ (wp_seq_k (fun aT al => (wp_region_lit (sw D.ok (o_mv D.at_) (fun aU E => ?_)))))))
 refine sw E.ok (o_neq (b := false) E.at_ ev_const (by decide)) (fun aV G => ?_)
 refine wpList_nil (th_n (al _ _ (wp_cond_false (G.at_) ?_)))
 refine wp_skip (th_n (ah _ _ (wp_seq_k (fun aW am => (wp_region_lit ?_)))))
 have an := G.n (E.n (D.n (C.n (B.n (A.n L)))))
 refine sw G.ok (o_fa (z := 1) an Tryz.underlying34 rfl (by kernel_rfl) rfl rfl) (fun aX S => ?_)
 refine sw S.ok (o_ld S.at_ (Tryz.isAgg32 _) (ak.cell _ rfl)) (fun aY T => ?_)
 refine sc T.ok rfl (wn _ rfl) rfl (o_f1 Tryz.func116 rfl rfl rfl T.at_) (pcheck_pl _ F aj hFl (hF.gr O)) ?_
 rintro _ aZ ⟨rfl, ao⟩
 refine ⟨_, rfl, fun a1 V => ?_⟩
 have ap := O.trans ao
 refine sw V.ok (o_as V.at_) (fun a2 W => ?_)
 refine wpList_nil (th_n (am _ _ (wp_ret (ret1 W.ok rfl (W.at_) ⟨rfl, ap⟩))))
theorem give1_any (x : VerI) (p3 : Nat) (m2 s2 : Nat) (ua ja : Option Addr) (un uc jc : Nat) (F : List PtX) (U : Nat → Nat) (w : World) (h3 : Bk w p3 #[.int .i64 (m2 : Int), .int .i64 (s2 : Int), .slice ua un uc, .slice ja (List.length F) jc] 34) (hU : FO 0 16 w (.slice ua un uc) U) :
  Calls Tryz.prog 89 #[.agg #[.string (bs x.d.id), .int .i64 (x.d.s), .int .i64 (x.d.c), .int .i64 (x.d.t), .int .i64 (x.d.n), .int .i64 (x.d.b), .slice x.va x.d.V.length x.vc, .slice x.ma x.d.M.length x.mc], .pointer (some ⟨p3, 0, none⟩)] w fun e w' => e = .returned (.bool (bitT U x.d.t x.d.n)) ∧ Gr w w' := by
 refine enter (N := 9) Tryz.func89 rfl rfl rfl (fun u ok0 a => ?_)
 have C : u.eval (.tmp 0) = .agg #[.string (bs x.d.id), .int .i64 (x.d.s), .int .i64 (x.d.c), .int .i64 (x.d.t), .int .i64 (x.d.n), .int .i64 (x.d.b), .slice x.va x.d.V.length x.vc, .slice x.ma x.d.M.length x.mc] := a 0 _ rfl
 have D : u.eval (.tmp 1) = .pointer (some ⟨p3, 0, none⟩) := a 1 _ rfl
 clear a
 have E := Gr.refl w
 refine wp_seq_k (fun S G => (wp_region_lit (sal (cs := #[.string (bs x.d.id), .int .i64 (x.d.s), .int .i64 (x.d.c), .int .i64 (x.d.t), .int .i64 (x.d.n), .int .i64 (x.d.b), .slice x.va x.d.V.length x.vc, .slice x.ma x.d.M.length x.mc]) ok0 rfl (wn _ rfl) rfl (o_box C) (fun T H W g h => ?_))))
 have y := E.trans g.gr
 have I := h3.gr g.gr
 refine sw h.ok (o_as ev_const) (fun X j => ?_)
 refine wpList_nil (th_n (G _ _ (wp_seq_k (fun Y J => (wp_region_lit (sw j.ok (o_fa (z := 1) (j.n (h.n D)) Tryz.underlying34 rfl (by kernel_rfl) rfl rfl) (fun Z l => ?_)))))))
 refine sw l.ok (o_ld l.at_ (Tryz.isAgg22 _) (I.cell _ rfl)) (fun aa o => ?_)
 have K := o.n (l.n (j.n h.at_))
 refine sw o.ok (o_fa (z := 2) K Tryz.underlying106 rfl (by kernel_rfl) rfl rfl) (fun ab q => ?_)
 refine sw q.ok (o_ldA (k := 3) (cs := [.int .i64 (x.d.t), .int .i64 (x.d.n)]) q.at_ (bk_part g.bk rfl) Tryz.underlying49 rfl (by kernel_rfl)) (fun ac r => ?_)
 refine sc r.ok rfl (wn _ rfl) rfl (o_f2 Tryz.func70 rfl rfl rfl (r.n (q.n o.at_)) r.at_) (sihas_any _ U x.d.t x.d.n H (FO.fs40 (hU.gr0 y))) ?_
 rintro _ ad ⟨rfl, L⟩
 refine ⟨_, rfl, fun af A => ?_⟩
 have O := y.trans L
 refine sw A.ok (o_as A.at_) (fun ag B => ?_)
 refine wpList_nil (th_n (J _ _ (wp_ret (ret1 B.ok rfl (B.at_) ⟨rfl, O⟩))))
theorem known_pl (v : Value) (F : List PtX) (x : VerI) (w : World) (hl : F.length ≤ 30) (h : PL 0 w v F) : Calls Tryz.prog 91 #[v, .agg #[.string (bs x.d.id), .int .i64 (x.d.s), .int .i64 (x.d.c), .int .i64 (x.d.t), .int .i64 (x.d.n), .int .i64 (x.d.b), .slice x.va x.d.V.length x.vc, .slice x.ma x.d.M.length x.mc]] w fun e w' => e = .returned (.bool (hasV F x.d.t x.d.n x.d.s x.d.c)) ∧ Gr w w' := by
 obtain ⟨a, c, rfl, -, -, h1, h2⟩ := h.rd
 exact known_any F a c x hl w h1 h2
theorem give2_any (x : VerI) (p3 p7 : Nat) (m2 s2 : Nat) (ua ja : Option Addr) (un uc jc : Nat) (F : List PtX) (U : Nat → Nat) (hFl : F.length ≤ 30) (w : World) (h3 : Bk w p3 #[.int .i64 (m2 : Int), .int .i64 (s2 : Int), .slice ua un uc, .slice ja (List.length F) jc] 34) (h7 : Bk w p7 #[.func (.func 89) #[] #[.pointer (some ⟨p3, 0, none⟩)]] 115) (hU : FO 0 16 w (.slice ua un uc) U) (hF : PL 0 w (.slice ja (List.length F) jc) F) :
  Calls Tryz.prog 90 #[.agg #[.string (bs x.d.id), .int .i64 (x.d.s), .int .i64 (x.d.c), .int .i64 (x.d.t), .int .i64 (x.d.n), .int .i64 (x.d.b), .slice x.va x.d.V.length x.vc, .slice x.ma x.d.M.length x.mc], .pointer (some ⟨p7, 0, none⟩), .pointer (some ⟨p3, 0, none⟩)] w fun e w' => e = .returned (.bool (giveB U F x.d)) ∧ Gr w w' := by
 refine enter (N := 15) Tryz.func90 rfl rfl rfl (fun H ok0 u => ?_)
 have ag : H.eval (.tmp 0) = .agg #[.string (bs x.d.id), .int .i64 (x.d.s), .int .i64 (x.d.c), .int .i64 (x.d.t), .int .i64 (x.d.n), .int .i64 (x.d.b), .slice x.va x.d.V.length x.vc, .slice x.ma x.d.M.length x.mc] := u 0 _ rfl
 have ah : H.eval (.tmp 1) = .pointer (some ⟨p7, 0, none⟩) := u 1 _ rfl
 have ai : H.eval (.tmp 2) = .pointer (some ⟨p3, 0, none⟩) := u 2 _ rfl
 clear u
 have G0 := Gr.refl w
 refine wp_seq_k (fun K1 ak => (wp_region_lit (sal (cs := #[.string (bs x.d.id), .int .i64 (x.d.s), .int .i64 (x.d.c), .int .i64 (x.d.t), .int .i64 (x.d.n), .int .i64 (x.d.b), .slice x.va x.d.V.length x.vc, .slice x.ma x.d.M.length x.mc]) ok0 rfl (wn _ rfl) rfl (o_box ag) (fun ay w4 b3 h j => ?_))))
 have W := G0.trans h.gr
 have X := h3.gr h.gr
 have am := h7.gr h.gr
 refine sw j.ok (o_as ev_const) (fun aA l => ?_)
 refine wpList_nil (th_n (ak _ _ (wp_seq_k (fun aB Y => (wp_region_lit (sw l.ok (o_ld (l.n (j.n ah)) (Tryz.isAgg115 _) (am.cell _ rfl)) (fun aC o => ?_)))))))
 refine sw o.ok (o_ldR (o.n (l.n j.at_)) h.bk Tryz.underlying106 rfl (by kernel_rfl)) (fun aD q => ?_)
 refine sc q.ok rfl (wn _ rfl) rfl (o_fv1 (caps := [.pointer (some ⟨p3, 0, none⟩)]) ⟨_, Tryz.func89, rfl, rfl⟩ (q.n o.at_) q.at_) (give1_any x p3 m2 s2 ua ja un uc jc F U w4 X (hU.gr0 W)) ?_
 rintro _ an ⟨rfl, I⟩
 refine ⟨_, rfl, fun aE y => ?_⟩
 have J := W.trans I
 have ao := X.gr I
 have ap := h.bk.gr I
 refine sw y.ok (o_mv y.at_) (fun aF a => ?_)
 cases A : (bitT U x.d.t x.d.n)
 ·have B := (a.at_).trans (congrArg Value.bool (A))
  refine sn a.ok rfl (wgF rfl (yl 3 false rfl B) rfl) rfl (fun aG C => ?_)
  refine sn C.ok rfl (wgF rfl (yl 3 false rfl (C.n B)) rfl) rfl (fun aH K => ?_)
  refine sn K.ok rfl (wgF rfl (yl 3 false rfl (K.n (C.n B))) rfl) rfl (fun aI Z => ?_)
  have L := Z.n (K.n (C.n B))
  refine sn Z.ok rfl (wgF rfl (yl 3 false rfl L) rfl) rfl (fun aJ O => ?_)
  refine sn O.ok rfl (wgF rfl (yl 3 false rfl (O.n L)) rfl) rfl (fun aK aa => ?_)
  refine sw aa.ok (o_pkF (aa.n (O.n L)) ev_const) (fun aL ab => ?_)
  refine sw ab.ok (o_as ab.at_) (fun aM ac => ?_)
  refine wpList_nil (th_n (Y _ _ (wp_ret (ret1 ac.ok rfl (ac.at_) ⟨by unfold giveB; simp [A], J⟩))))
 ·have D := (a.at_).trans (congrArg Value.bool (A))
  have aq := a.n (y.n (q.n (o.n (l.n (j.n ai)))))
  refine sv a.ok rfl (wgT rfl (yl 3 true rfl D) rfl) rfl (o_fa (z := 1) aq Tryz.underlying34 rfl (by kernel_rfl) rfl rfl) (fun aO g => ?_)
  refine sv g.ok rfl (wgT rfl (yl 3 true rfl (g.n D)) rfl) rfl (o_ld g.at_ (Tryz.isAgg32 _) (ao.cell _ rfl)) (fun aS r => ?_)
  have ar := r.n (g.n (a.n (y.n (q.n (o.n (l.n j.at_))))))
  refine sv r.ok rfl (wgT rfl (yl 3 true rfl (r.n (g.n D))) rfl) rfl (o_ldR ar ap Tryz.underlying106 rfl (by kernel_rfl)) (fun aT E => ?_)
  have S := E.n (r.n (g.n D))
  refine sc E.ok rfl (wgT rfl (yl 3 true rfl S) rfl) rfl (o_f2 Tryz.func91 rfl rfl rfl (E.n r.at_) E.at_) (known_pl _ F x an hFl (hF.gr J)) ?_
  rintro _ aU ⟨rfl, au⟩
  refine ⟨_, rfl, fun aV G => ?_⟩
  have av := J.trans au
  refine sv G.ok rfl (wgT rfl (yl 3 true rfl (G.n S)) rfl) rfl (o_notI G.at_) (fun aW T => ?_)
  refine sw T.ok (o_pkT (T.n (G.n S)) T.at_) (fun aX ad => ?_)
  refine sw ad.ok (o_as ad.at_) (fun aY af => ?_)
  refine wpList_nil (th_n (Y _ _ (wp_ret (ret1 af.ok rfl (af.at_) ⟨by unfold giveB; simp [A], av⟩))))
theorem give3_any (x : VerI) (p3 p7 : Nat) (m2 s2 : Nat) (ua ja : Option Addr) (un uc jc : Nat) (F : List PtX) (U : Nat → Nat) (w : World) (h3 : Bk w p3 #[.int .i64 (m2 : Int), .int .i64 (s2 : Int), .slice ua un uc, .slice ja (List.length F) jc] 34) (h7 : Bk w p7 #[.func (.func 89) #[] #[.pointer (some ⟨p3, 0, none⟩)]] 115) (hU : FO 0 16 w (.slice ua un uc) U) :
  Calls Tryz.prog 92 #[.agg #[.string (bs x.d.id), .int .i64 (x.d.s), .int .i64 (x.d.c), .int .i64 (x.d.t), .int .i64 (x.d.n), .int .i64 (x.d.b), .slice x.va x.d.V.length x.vc, .slice x.ma x.d.M.length x.mc], .pointer (some ⟨p7, 0, none⟩)] w fun e w' => e = .returned (.bool (goneB U x.d)) ∧ Gr w w' := by
 refine enter (N := 8) Tryz.func92 rfl rfl rfl (fun q ok0 g => ?_)
 have A : q.eval (.tmp 0) = .agg #[.string (bs x.d.id), .int .i64 (x.d.s), .int .i64 (x.d.c), .int .i64 (x.d.t), .int .i64 (x.d.n), .int .i64 (x.d.b), .slice x.va x.d.V.length x.vc, .slice x.ma x.d.M.length x.mc] := g 0 _ rfl
 have B : q.eval (.tmp 1) = .pointer (some ⟨p7, 0, none⟩) := g 1 _ rfl
 clear g
 have C := Gr.refl w
 refine wp_seq_k (fun L D => (wp_region_lit (sal (cs := #[.string (bs x.d.id), .int .i64 (x.d.s), .int .i64 (x.d.c), .int .i64 (x.d.t), .int .i64 (x.d.n), .int .i64 (x.d.b), .slice x.va x.d.V.length x.vc, .slice x.ma x.d.M.length x.mc]) ok0 rfl (wn _ rfl) rfl (o_box A) (fun O E S a h => ?_))))
 have r := C.trans a.gr
 have G := h3.gr a.gr
 have H := h7.gr a.gr
 refine sw h.ok (o_as ev_const) (fun T j => ?_)
 refine wpList_nil (th_n (D _ _ (wp_seq_k (fun W I => (wp_region_lit (sw j.ok (o_ld (j.n (h.n B)) (Tryz.isAgg115 _) (H.cell _ rfl)) (fun X l => ?_)))))))
 refine sw l.ok (o_ldR (l.n (j.n h.at_)) a.bk Tryz.underlying106 rfl (by kernel_rfl)) (fun Y o => ?_)
 refine sc o.ok rfl (wn _ rfl) rfl (o_fv1 (caps := [.pointer (some ⟨p3, 0, none⟩)]) ⟨_, Tryz.func89, rfl, rfl⟩ (o.n l.at_) o.at_) (give1_any x p3 m2 s2 ua ja un uc jc F U E G (hU.gr0 r)) ?_
 rintro _ Z ⟨rfl, J⟩
 refine ⟨_, rfl, fun aa u => ?_⟩
 have K := r.trans J
 refine sw u.ok (o_notI u.at_) (fun ab y => ?_)
 refine sw y.ok (o_as y.at_) (fun ac z => ?_)
 refine wpList_nil (th_n (I _ _ (wp_ret (ret1 z.ok rfl (z.at_) ⟨rfl, K⟩))))
theorem take_snoc {α : Type} {L : List α} {i : Nat} {x : α} (h : L[i]? = some x) : L.take (i + 1) = L.take i ++ [x] := by
 rw [List.take_add_one, h]
 rfl
theorem sgive_ok (b : Nat) (S : SiD) (hO : SiOk S) (m2 s2 : Nat) (ua ja : Option Addr) (un uc jc : Nat) (F : List PtX) (U : Nat → Nat) (hm2 : m2 < 5) (hFl : F.length ≤ 30) (w : World) (hS : SiteAt w b S) (hU : FO 0 16 w (.slice ua un uc) U) (hF : PL 0 w (.slice ja (List.length F) jc) F) :
  Calls Tryz.prog 30 #[.pointer (some ⟨b, 0, none⟩), .agg #[.int .i64 (m2 : Int), .int .i64 (s2 : Int), .slice ua un uc, .slice ja (List.length F) jc]] w fun e w' => ∃ (K1 K2 : List VerI) (E : List PtX) (ra : Option Addr) (rc : Nat) (ga : Option Addr) (gc : Nat) (na : Option Addr) (nc : Nat), e = .returned (.tuple #[.agg #[.int .i64 (m2 : Int), .int .i64 (s2 : Int), .slice ra K1.length rc, .slice ga K2.length gc, .slice na E.length nc], .int .i64 0]) ∧ K1.map VerI.d = S.L.filter (giveB U F) ∧ K2.map VerI.d = S.L.filter (goneB U) ∧ E.length ≤ S.P.length + 1 ∧ NarS E U S ∧ ResK 0 w' (.slice ra K1.length rc) K1 ∧ GL 0 w' (.slice ga K2.length gc) K2 ∧ PL 0 w' (.slice na E.length nc) E ∧ Gr w w' := by
 refine enter (N := 62) Tryz.func30 rfl rfl rfl (fun a0 ok0 h0 => ?_)
 have c3 : a0.eval (.tmp 0) = .pointer (some ⟨b, 0, none⟩) := h0 0 _ rfl
 have c4 : a0.eval (.tmp 1) = .agg #[.int .i64 (m2 : Int), .int .i64 (s2 : Int), .slice ua un uc, .slice ja (List.length F) jc] := h0 1 _ rfl
 clear h0
 have G0 := Gr.refl w
 have hS0 := hS
 obtain ⟨fa, fn, fc, sa, sn, sq, la, lc, hb, hFw, hR, hP⟩ := hS
 refine wp_seq_k (fun K1 bz => (wp_region_lit (sal (cs := #[.int .i64 (m2 : Int), .int .i64 (s2 : Int), .slice ua un uc, .slice ja (List.length F) jc]) ok0 rfl (wn _ rfl) rfl (o_box c4) (fun hk w4 y W5 n2 => ?_))))
 have bZ := G0.trans W5.gr
 have c6 := hb.gr W5.gr
 refine sal (cs := #[.int .i64 0, .int .i64 0, .slice none 0 0, .slice none 0 0, .slice none 0 0]) n2.ok rfl (wn _ rfl) rfl (o_al (z := .agg #[.int .i64 0, .int .i64 0, .slice none 0 0, .slice none 0 0, .slice none 0 0]) (by kernel_rfl)) (fun hm c7 ag bc bd => ?_)
 have c8 : w.heap.size ≤ ag := by rw [bc.eq]; exact bZ.size
 have bB := bZ.trans bc.gr
 have c9 := c6.gr bc.gr
 have b0 := W5.bk.gr bc.gr
 refine sw bd.ok (o_as ev_const) (fun hn a2 => ?_)
 refine wpList_nil (th_n (bz _ _ (wp_seq_k (fun ho da => (wp_seq_k (fun hp db => (wp_region_lit (sw a2.ok (o_ldR (a2.n (bd.n n2.at_)) b0 Tryz.underlying34 rfl (by kernel_rfl)) (fun hq a3 => ?_)))))))))
 refine sc a3.ok rfl (wn _ rfl) rfl (o_f1 Tryz.func88 rfl rfl rfl a3.at_) (checkAsk_ok m2 s2 ua ja un uc jc F U hm2 hFl c7 (hU.gr0 bB) (hF.gr bB)) ?_
 rintro _ hr ⟨rfl, bl⟩
 refine ⟨_, rfl, fun hs a4 => ?_⟩
 have b1 := bB.trans bl
 have b2 := c9.gr bl
 have b4 := b0.gr bl
 have b5 := bc.bk.gr bl
 refine sw a4.ok (o_as a4.at_) (fun ht a6 => ?_)
 refine wpList_nil (th_n (db _ _ (wp_seq_k (fun hx dc => (wp_region_lit (sw a6.ok (o_mv a6.at_) (fun hy a7 => ?_)))))))
 refine sw a7.ok (o_neq (b := false) a7.at_ ev_const (by decide)) (fun hz a8 => ?_)
 refine wpList_nil (th_n (dc _ _ (wp_cond_false (a8.at_) ?_)))
 refine wp_skip (th_n (da _ _ (wp_seq_k (fun hA dd => (wp_region_lit ?_)))))
 have bC := a8.n (a7.n (a6.n (a4.n (a3.n (a2.n (bd.n n2.at_))))))
 refine sw a8.ok (o_mf (fs := []) (cs := [.pointer (some ⟨y, 0, none⟩)]) (by simp) (by simp [bC])) (fun hB aK => ?_)
 refine sal (cs := #[.nilFunc]) aK.ok rfl (wn _ rfl) rfl (o_al (z := .nilFunc) (by kernel_rfl)) (fun hC hD T Z ah => ?_)
 have df : b < T := by rw [Z.eq]; exact b2.lt
 have dg : y < T := by rw [Z.eq]; exact b4.lt
 have dh : ag < T := by rw [Z.eq]; exact b5.lt
 have di : w.heap.size ≤ T := by rw [Z.eq]; exact b1.size
 have dj := b1.trans Z.gr
 have dk := b2.gr Z.gr
 have dl := b4.gr Z.gr
 have dm := b5.gr Z.gr
 refine ssC rfl (wn _ rfl) (o_st ah.at_ (ah.n aK.at_) Z.bk rfl (by kernel_rfl) rfl) Z.bk (fun dn bm b6 => ?_)
 have b7 : Gr w dn := Below.upd dj di bm
 have b8 := dk.upd bm (Nat.ne_of_lt df)
 have bn := dl.upd bm (Nat.ne_of_lt dg)
 have b9 := dm.upd bm (Nat.ne_of_lt dh)
 refine wpList_nil (th_n (dd _ _ (wp_seq_k (fun hE dp => (wp_region_lit (sw ah.ok (o_fa (z := 1) (ah.n (aK.n bC)) Tryz.underlying34 rfl (by kernel_rfl) rfl rfl) (fun hG aM => ?_)))))))
 refine sw aM.ok (o_ld aM.at_ (Tryz.isAgg3 _) (bn.cell _ rfl)) (fun hH aO => ?_)
 have ca := aO.n (aM.n (ah.n (aK.n bC)))
 refine sw aO.ok (o_fa (z := 1) ca Tryz.underlying34 rfl (by kernel_rfl) rfl rfl) (fun hI ap => ?_)
 refine sw ap.ok (o_ld ap.at_ (Tryz.isAgg3 _) (bn.cell _ rfl)) (fun hJ aq => ?_)
 refine sw aq.ok (o_bd (cells := #[.int .i64 (m2 : Int), .int .i64 (s2 : Int), .slice none 0 0, .slice none 0 0, .slice none 0 0]) (vs := [(0, .int .i64 (m2 : Int)), (1, .int .i64 (s2 : Int))]) (by simp [(aq.n (ap.n aO.at_)), aq.at_, ev_const]) (by kernel_rfl)) (fun hK aT => ?_)
 refine sal (cs := #[.int .i64 0, .int .i64 0, .slice none 0 0, .slice none 0 0, .slice none 0 0]) aT.ok rfl (wn _ rfl) rfl (o_al (z := .agg #[.int .i64 0, .int .i64 0, .slice none 0 0, .slice none 0 0, .slice none 0 0]) (by kernel_rfl)) (fun hL hM o C ai => ?_)
 have bD : b < o := by rw [C.eq]; exact b8.lt
 have bE : y < o := by rw [C.eq]; exact bn.lt
 have bo : ag < o := by rw [C.eq]; exact b9.lt
 have cb : T < o := by rw [C.eq]; exact b6.lt
 have bp : w.heap.size ≤ o := by rw [C.eq]; exact b7.size
 have dq := b7.trans C.gr
 have dr := b8.gr C.gr
 have ds := bn.gr C.gr
 have dt := b9.gr C.gr
 have du := b6.gr C.gr
 refine ssR rfl (wn _ rfl) (o_stR ai.at_ (ai.n aT.at_) C.bk (by kernel_rfl) rfl (by first | (simp [Value.oneCell']; done) | (rw [← Array.all_toList]; simp [Value.oneCell']))) C.bk (fun bq bf cc => ?_)
 have br : Gr w bq := Below.upd dq bp bf
 have cd := dr.upd bf (Nat.ne_of_lt bD)
 have cf := ds.upd bf (Nat.ne_of_lt bE)
 have cg := dt.upd bf (Nat.ne_of_lt bo)
 have ch := du.upd bf (Nat.ne_of_lt cb)
 refine wpList_nil (th_n (dp _ _ (wp_seq_k (fun hT dv => (wp_region_lit ?_)))))
 have ci := ai.n (aT.n (aq.n (ap.n (aO.n (aM.n (ah.n (aK.n (a8.n (a7.n (a6.n (a4.n (a3.n (a2.n (bd.n (n2.n c3)))))))))))))))
 refine sw ai.ok (o_mv ci) (fun hV ar => ?_)
 refine sw ar.ok (o_nc ar.at_) (fun hW au => ?_)
 refine sw au.ok (o_fa (z := 1) au.at_ Tryz.underlying125 rfl (by kernel_rfl) rfl rfl) (fun hX av => ?_)
 refine sw av.ok (o_ld av.at_ (Tryz.isAgg41 _) (cd.cell _ rfl)) (fun hY ax => ?_)
 have cj := ax.n (av.n (au.n (ar.n (ai.n (aT.n (aq.n (ap.n (aO.n (aM.n ah.at_)))))))))
 have ck := ax.n (av.n (au.n (ar.n (ai.n (aT.n (aq.n (ap.n ca)))))))
 refine sw ax.ok (o_mf (fs := []) (cs := [.pointer (some ⟨T, 0, none⟩), .pointer (some ⟨y, 0, none⟩)]) (by simp) (by simp [cj, ck])) (fun hZ aj => ?_)
 obtain ⟨ak, bF⟩ : ∃ n, n = bq.heap.size := ⟨_, rfl⟩
 have dx : ag < ak := by rw [bF]; exact cg.lt
 have bG : o < ak := by rw [bF]; exact cc.lt
 have cl : ak ≤ bq.heap.size := Nat.le_of_eq bF
 refine sc aj.ok rfl (wn _ rfl) rfl (o_f2 Tryz.func71 rfl rfl rfl (aj.n ax.at_) aj.at_) (only_r _ S.L 90 [.pointer (some ⟨T, 0, none⟩), .pointer (some ⟨y, 0, none⟩)] (giveB U F) 0 ak bq cl ⟨_, Tryz.func90, rfl, rfl⟩ hO.ok (hR.gr0 br) (fun x _ w1 g1 => give2_any x y T m2 s2 ua ja un uc jc F U hFl w1 (cf.gr g1) (ch.gr g1) (hU.gr0 (br.trans g1)) (hF.gr (br.trans g1)))) ?_
 rintro _ h4 ⟨K1, ra, rc, rfl, bz, hk1, aU⟩
 refine ⟨_, rfl, fun h5 az => ?_⟩
 have dy := br.trans aU
 have dz := cd.gr aU
 have dA := cf.gr aU
 have dB := cg.gr aU
 have dC := ch.gr aU
 have cm := cc.gr aU
 have dD := Nat.le_trans cl aU.size
 have cn := az.n (aj.n (ax.n (av.n (au.n (ar.n ai.at_)))))
 refine sw az.ok (o_fa (z := 1) cn Tryz.underlying63 rfl (by kernel_rfl) rfl rfl) (fun h6 al => ?_)
 refine ssC rfl (wn _ rfl) (o_st al.at_ (al.n az.at_) cm rfl (by kernel_rfl) rfl) cm (fun bg aV co => ?_)
 have bH : Gr w bg := Below.upd dy bp aV
 have cp := dz.upd aV (Nat.ne_of_lt bD)
 have cq := dA.upd aV (Nat.ne_of_lt bE)
 have cr := dB.upd aV (Nat.ne_of_lt bo)
 have dE := dC.upd aV (Nat.ne_of_lt cb)
 have dF : ak ≤ bg.heap.size := by rw [aV.size]; exact dD
 have dG := hk1.updL aV bG
 refine wpList_nil (th_n (dv _ _ (wp_seq_k (fun h7 dH => (wp_seq_k (fun h8 dI => (wp_region_lit ?_)))))))
 have ct := al.n (az.n (aj.n (ax.n (av.n (au.n (ar.n ci))))))
 refine sw al.ok (o_mv ct) (fun h9 aA => ?_)
 refine sw aA.ok (o_nc aA.at_) (fun ia aB => ?_)
 refine sw aB.ok (o_fa (z := 1) aB.at_ Tryz.underlying125 rfl (by kernel_rfl) rfl rfl) (fun ib aC => ?_)
 refine sw aC.ok (o_ld aC.at_ (Tryz.isAgg41 _) (cp.cell _ rfl)) (fun ic aD => ?_)
 have dJ := aD.n (aC.n (aB.n (aA.n (al.n (az.n (aj.n cj))))))
 refine sw aD.ok (o_mf (fs := []) (cs := [.pointer (some ⟨T, 0, none⟩)]) (by simp) (by simp [dJ])) (fun ig aE => ?_)
 obtain ⟨aF, bI⟩ : ∃ n, n = bg.heap.size := ⟨_, rfl⟩
 have dK : ag < aF := by rw [bI]; exact cr.lt
 have cu : o < aF := by rw [bI]; exact co.lt
 have cx : aF ≤ bg.heap.size := Nat.le_of_eq bI
 refine sc aE.ok rfl (wn _ rfl) rfl (o_f2 Tryz.func71 rfl rfl rfl (aE.n aD.at_) aE.at_) (only_r _ S.L 92 [.pointer (some ⟨T, 0, none⟩)] (goneB U) 0 aF bg cx ⟨_, Tryz.func92, rfl, rfl⟩ hO.ok (hR.gr0 bH) (fun x _ w1 g1 => give3_any x y T m2 s2 ua ja un uc jc F U w1 (cq.gr g1) (dE.gr g1) (hU.gr0 (bH.trans g1)))) ?_
 rintro _ bJ ⟨K2, qa, qc, rfl, cy, hk2, aG⟩
 have hl2 : K2.length ≤ 60 := by have h1 := congrArg List.length cy; rw [List.length_map] at h1; have h2 := List.length_filter_le (goneB U) S.L; have h3 := hO.ok.len; omega
 refine ⟨_, rfl, fun ij aH => ?_⟩
 have cz := bH.trans aG
 have cA := cp.gr aG
 have cB := cq.gr aG
 have cC := cr.gr aG
 have cD := co.gr aG
 have dM := Nat.le_trans dF aG.size
 have dO := Nat.le_trans cx aG.size
 have dS := dG.gr0 aG
 refine sw aH.ok (o_len aH.at_ Tryz.underlying41) (fun ik aI => ?_)
 refine sw aI.ok (o_mv ev_const) (fun il am => ?_)
 refine wpList_nil (th_n (dI _ _ (wp_block ?_)))
 obtain ⟨A, a9⟩ : ∃ n, n = bJ.heap.size := ⟨_, rfl⟩
 have dT : b < A := by rw [a9]; exact cA.lt
 have dU : y < A := by rw [a9]; exact cB.lt
 have cE : ag < A := by rw [a9]; exact cC.lt
 have bK : o < A := by rw [a9]; exact cD.lt
 have dV : w.heap.size ≤ A := by rw [a9]; exact cz.size
 have dW : A ≤ bJ.heap.size := Nat.le_of_eq a9
 have dX := World.ownsRow_nil bJ A 77 3
 have dY := am.n (aI.n (aH.n (aE.n (aD.n (aC.n (aB.n (aA.n ct)))))))
 have dZ := am.n (aI.n (aH.n (aE.n (aD.n (aC.n (aB.n (aA.n (al.n (az.n (aj.n ck))))))))))
 have d0 := am.n (aI.n (aH.n (aE.n (aD.n (aC.n (aB.n (aA.n (al.n (az.n (aj.n (ax.n (av.n (au.n (ar.n (ai.n (aT.n (aq.n (ap.n (aO.n (aM.n (ah.n (aK.n (a8.n (a7.n (a6.n (a4.n (a3.n (a2.n bd.at_))))))))))))))))))))))))))))
 have d1 := am.n (aI.n (aH.n (aE.n (aD.n (aC.n (aB.n (aA.n (al.n (az.n (aj.n (ax.n (av.n (au.n (ar.n (ai.n (aT.n (aq.n (ap.n (aO.n (aM.n (ah.n (aK.n (a8.n (a7.n (a6.n (a4.n (a3.n a2.at_)))))))))))))))))))))))))))
 have d2 := am.n (aI.n (aH.n (aE.n (aD.n (aC.n (aB.n (aA.n (al.n cn))))))))
 refine lp (fun (nL : Nat) (aL : Act) (wL : World) => ∃ i : Nat, ∃ ga : Option Addr, ∃ gc : Nat, nL = K2.length - i ∧ Ok 62 aL ∧ Gr w wL ∧ (aL.eval (.tmp 0) = .pointer (some ⟨b, 0, none⟩)) ∧ (aL.eval (.tmp 3) = .pointer (some ⟨y, 0, none⟩)) ∧ (aL.eval (.tmp 4) = .pointer (some ⟨ag, 0, none⟩)) ∧ (aL.eval (.tmp 5) = .int .i64 0) ∧ (aL.eval (.tmp 8) = .pointer (some ⟨o, 0, none⟩)) ∧ (aL.eval (.tmp 35) = .slice qa (List.length K2) qc) ∧ (aL.eval (.tmp 36) = .int .i64 (((List.length K2) : Nat) : Int)) ∧ (aL.eval (.tmp 37) = .int .i64 (i : Int)) ∧ (Bk wL b #[.int .i64 ((S.me : Nat) : Int), .int .i64 ((S.made : Nat) : Int), .int .i64 ((S.stamp : Nat) : Int), .slice fa fn fc, .slice sa sn sq, .slice la S.P.length lc] 125) ∧ (Bk wL y #[.int .i64 (m2 : Int), .int .i64 (s2 : Int), .slice ua un uc, .slice ja (List.length F) jc] 34) ∧ (Bk wL ag #[.int .i64 0, .int .i64 0, .slice none 0 0, .slice none 0 0, .slice none 0 0] 63) ∧ (Bk wL o #[.int .i64 (m2 : Int), .int .i64 (s2 : Int), .slice ra (List.length K1) rc, .slice ga i gc, .slice none 0 0] 63) ∧ (ResK ak wL (.slice ra (List.length K1) rc) K1) ∧ (ResK aF wL (.slice qa (List.length K2) qc) K2) ∧ (World.ownsRow wL A 77 3 (.slice ga i gc) (i) ((flatE encGn (K2.take i)))) ∧ (ak ≤ wL.heap.size) ∧ (aF ≤ wL.heap.size) ∧ (A ≤ wL.heap.size) ∧ (i ≤ K2.length)) _ ⟨0, none, 0, rfl, am.ok, cz, dY, dZ, d0, d1, d2, (am.n (aI.n aH.at_)), (am.n aI.at_), am.at_, cA, cB, cC, cD, dS, hk2, dX, dM, dO, dW, by omega⟩ ?_
 rintro im io bu ⟨i, ga, gc, hmI198, okI198, GI198, cF, cG, cH, d3, bL, cI, cJ, bM, kbI198, kb3I198, kb14I198, kb84I198, fk1I198, fk2I198, ogrI198, zbase1I198, zbase2I198, zbase3I198, hiI198⟩ KI198 hKI198
 refine wp_seq_k (fun ip d4 => (wp_region_lit (sw okI198 (o_ltI bM cJ) (fun iq a => ?_))))
 refine wpList_nil (th_n (d4 _ _ (wp_seq_k (fun ir d5 => ?_))))
 by_cases cK : (i : Int) < (((List.length K2) : Nat) : Int)
 ·refine wp_cond_true ((a.at_).trans (congrArg Value.bool (decide_eq_true cK))) ?_
  refine wp_skip (th_n (d5 _ _ (wp_seq_k (fun it d6 => (wp_block (wp_seq_k (fun iu d7 => (wp_region_lit ?_))))))))
  have bO : i < List.length K2 := by omega
  obtain ⟨bh213, fh213, d8, d9, fb⟩ := (RdA.own encVr_ok fk2I198.1 rfl) (ne_nil_of_lt bO)
  obtain ⟨xh213, cL⟩ : ∃ x, (K2)[i]? = some x := ⟨_, List.getElem?_eq_getElem bO⟩
  refine sw a.ok (o_iaV (i := i) (s := 8) d8 (a.n cI) (a.n bM) Tryz.underlying41 (by kernel_rfl) bO) (fun iv aa => ?_)
  refine sw aa.ok (o_ldA (k := fh213 + i * 8) aa.at_ (cs := [.string (bs xh213.d.id), .int .i64 (xh213.d.s), .int .i64 (xh213.d.c), .int .i64 (xh213.d.t), .int .i64 (xh213.d.n), .int .i64 (xh213.d.b), .slice xh213.va xh213.d.V.length xh213.vc, .slice xh213.ma xh213.d.M.length xh213.mc]) (fun j v hv => (Below.cell (Gr.refl bu) d9).trans (fb _ _ cL j v hv)) Tryz.underlying106 rfl (by kernel_rfl)) (fun ix ab => ?_)
  refine sal (cs := #[.string (bs []), .int .i64 0, .int .i64 0, .int .i64 0, .int .i64 0, .int .i64 0, .slice none 0 0, .slice none 0 0]) ab.ok rfl (wn _ rfl) rfl (o_al (z := .agg #[.string (bs []), .int .i64 0, .int .i64 0, .int .i64 0, .int .i64 0, .int .i64 0, .slice none 0 0, .slice none 0 0]) (by kernel_rfl)) (fun iy iz aW l B => ?_)
  have cM := Gr.refl bu
  have ff : b < aW := by rw [l.eq]; exact kbI198.lt
  have fg : y < aW := by rw [l.eq]; exact kb3I198.lt
  have fh : ag < aW := by rw [l.eq]; exact kb14I198.lt
  have fi : o < aW := by rw [l.eq]; exact kb84I198.lt
  have fj : w.heap.size ≤ aW := by rw [l.eq]; exact GI198.size
  have fk : bu.heap.size ≤ aW := by rw [l.eq]; exact cM.size
  have fl : ∀ k, Value.ownBlock (.slice ga i gc) = some k → k < aW := fun k e => by rw [l.eq]; exact ow_in ogrI198 k e
  have fm := GI198.trans l.gr
  have fo := kbI198.gr l.gr
  have fp := kb3I198.gr l.gr
  have fq := kb14I198.gr l.gr
  have fr := kb84I198.gr l.gr
  have ft := cM.trans l.gr
  have fu := Nat.le_trans zbase1I198 l.gr.size
  have fv := Nat.le_trans zbase2I198 l.gr.size
  have fx := Nat.le_trans zbase3I198 l.gr.size
  have fy := ow_gr ogrI198 l.gr
  refine ssR rfl (wn _ rfl) (o_stR B.at_ (B.n ab.at_) l.bk (by kernel_rfl) rfl (by first | (simp [Value.oneCell']; done) | (rw [← Array.all_toList]; simp [Value.oneCell']))) l.bk (fun bh ac cO => ?_)
  have fz : Gr w bh := Below.upd fm fj ac
  have fA := fo.upd ac (Nat.ne_of_lt ff)
  have fB := fp.upd ac (Nat.ne_of_lt fg)
  have fC := fq.upd ac (Nat.ne_of_lt fh)
  have cS := fr.upd ac (Nat.ne_of_lt fi)
  have cT : Gr bu bh := Below.upd ft fk ac
  have fD : ak ≤ bh.heap.size := by rw [ac.size]; exact fu
  have fE : aF ≤ bh.heap.size := by rw [ac.size]; exact fv
  have fF : A ≤ bh.heap.size := by rw [ac.size]; exact fx
  have fG := ow_upd_ne fy ac fl
  have fH := fk1I198.gr0 cT
  have fI := fk2I198.gr0 cT
  refine wpList_nil (th_n (d7 _ _ (wp_region_lit ?_)))
  have cU := B.n (ab.n (aa.n (a.n bL)))
  refine sw B.ok (o_fa (z := 1) cU Tryz.underlying63 rfl (by kernel_rfl) rfl rfl) (fun iA D => ?_)
  refine sw D.ok (o_ld D.at_ (Tryz.isAgg61 _) (cS.cell _ rfl)) (fun iB G => ?_)
  refine sw G.ok (o_fa (z := 1) (G.n (D.n B.at_)) Tryz.underlying106 rfl (by kernel_rfl) rfl rfl) (fun iC H => ?_)
  refine sw H.ok (o_ld H.at_ (Tryz.isAgg9 _) (cO.cell _ rfl)) (fun iD I => ?_)
  have fJ := I.n (H.n (G.n (D.n B.at_)))
  refine sw I.ok (o_fa (z := 2) fJ Tryz.underlying106 rfl (by kernel_rfl) rfl rfl) (fun iE J => ?_)
  refine sw J.ok (o_ldA (k := 6) (cs := [.slice xh213.va xh213.d.V.length xh213.vc, .slice xh213.ma xh213.d.M.length xh213.mc]) J.at_ (bk_part cO rfl) Tryz.underlying75 rfl (by kernel_rfl)) (fun iF K => ?_)
  refine sw K.ok (o_bd (cells := #[.string (bs xh213.d.id), .slice xh213.va xh213.d.V.length xh213.vc, .slice xh213.ma xh213.d.M.length xh213.mc]) (vs := [(0, .string (bs xh213.d.id)), (1, .agg #[.slice xh213.va xh213.d.V.length xh213.vc, .slice xh213.ma xh213.d.M.length xh213.mc])]) (by simp [(K.n (J.n I.at_)), K.at_, ev_const]) (by kernel_rfl)) (fun iG W => ?_)
  obtain ⟨iH, fK, fL, bS⟩ := info3_of (show (Tryz.prog.info? 77).map (fun i => (i.zero, i.size)) = some (some (.agg #[.string (bs []), .slice none 0 0, .slice none 0 0]), 3) by kernel_rfl)
  refine sals (cs := #[.string (bs xh213.d.id), .slice xh213.va xh213.d.V.length xh213.vc, .slice xh213.ma xh213.d.M.length xh213.mc]) W.ok rfl (wn _ rfl) rfl (o_bs (vs := [(0, .agg #[.string (bs xh213.d.id), .slice xh213.va xh213.d.V.length xh213.vc, .slice xh213.ma xh213.d.M.length xh213.mc])]) (by simp [W.at_, ev_const]) Tryz.underlying61 fK fL (by rw [bS]; rfl) (by rw [bS]; rfl) (by rw [bS]; kernel_rfl)) (fun iI iJ iK O X => ?_)
  have fM := fz.trans O.gr
  have fO := fA.gr O.gr
  have fS := fB.gr O.gr
  have fT := fC.gr O.gr
  have fU := cS.gr O.gr
  have fV := Nat.le_trans fD O.gr.size
  have fW := Nat.le_trans fE O.gr.size
  have cV := Nat.le_trans fF O.gr.size
  have aJ := ow_gr fG O.gr
  have fX := fH.gr0 O.gr
  have fY := fI.gr0 O.gr
  have fZ := X.n (W.n (K.n (J.n (I.n (H.n G.at_)))))
  obtain ⟨iL, f0, f1, f2, f3⟩ := info_of (show (Tryz.prog.info? 77).map (fun i => (i.zero, i.size, i.bytes)) = some (some (.agg #[.string (bs []), .slice none 0 0, .slice none 0 0]), 3, 64) by kernel_rfl)
  refine s_app (base := A) (n := i) (xs := (flatE encGn (K2.take i))) (m := 1) (news := encGn xh213) X.ok (wn _ rfl) rfl Tryz.underlying61 f0 f1 f2 f3 rfl (by omega) fZ aJ X.at_ rfl ((fun j u hu => by rw [add_n]; exact bk_part O.bk (k := 0) rfl j u hu)) (encGn_ok.one xh213) (by simp only [maxLen]; omega) (by omega) cV (fun iM f4 iO cW gg298 ad => ?_)
  obtain ⟨cX, cY, rfl, iS⟩ := ow_form cW
  have f5 := Gr.grown fM gg298 (fun k e => Nat.le_trans dV (ow_lt aJ k e))
  have f6 := fO.grown gg298 (ow_lt aJ) dT
  have f7 := fS.grown gg298 (ow_lt aJ) dU
  have f8 := fT.grown gg298 (ow_lt aJ) cE
  have cZ := fU.grown gg298 (ow_lt aJ) bK
  have f9 := Nat.le_trans fV gg298.size
  have gb := Nat.le_trans fW gg298.size
  have gd := Nat.le_trans cV gg298.size
  have gf := fX.gone aJ gg298
  have gg := fY.gone aJ gg298
  have gh : f4.ownsRow A 77 3 (.slice cX ((i + 1)) cY) ((i + 1)) ((flatE encGn (K2.take (i + 1)))) := by have h := cW; rw [← flatE_one (enc := encGn) xh213, ← flatE_app, ← take_snoc cL] at h; exact h
  have c0 := ad.n (X.n (W.n (K.n (J.n (I.n (H.n (G.n (D.n cU))))))))
  refine sw ad.ok (o_fa (z := 1) c0 Tryz.underlying63 rfl (by kernel_rfl) rfl rfl) (fun iT Y => ?_)
  refine ssC rfl (wn _ rfl) (o_st Y.at_ (Y.n ad.at_) cZ rfl (by kernel_rfl) rfl) cZ (fun bv af gi => ?_)
  have gj : Gr w bv := Below.upd f5 bp af
  have gk := f6.upd af (Nat.ne_of_lt bD)
  have gl := f7.upd af (Nat.ne_of_lt bE)
  have gm := f8.upd af (Nat.ne_of_lt bo)
  have gn : ak ≤ bv.heap.size := by rw [af.size]; exact f9
  have go : aF ≤ bv.heap.size := by rw [af.size]; exact gb
  have gp : A ≤ bv.heap.size := by rw [af.size]; exact gd
  have gq := ow_upd gh af bK
  have gs := gf.updL af bG
  have gt := gg.updL af cu
  refine wpList_nil (ib_n (th_n (d6 _ _ (wp_region_lit ?_))))
  have gu := Y.n (ad.n (X.n (W.n (K.n (J.n (I.n (H.n (G.n (D.n (B.n (ab.n (aa.n (a.n bM)))))))))))))
  refine sw Y.ok (o_add (r := ((i + 1 : Nat) : Int)) gu ev_const (by omega) (by omega)) (fun iU an => ?_)
  refine sw an.ok (o_mv an.at_) (fun iV ao => ?_)
  refine wpList_nil ?_
  have gx := ao.n (an.n (Y.n (ad.n (X.n (W.n (K.n (J.n (I.n (H.n (G.n (D.n (B.n (ab.n (aa.n (a.n cF)))))))))))))))
  have gy := ao.n (an.n (Y.n (ad.n (X.n (W.n (K.n (J.n (I.n (H.n (G.n (D.n (B.n (ab.n (aa.n (a.n cG)))))))))))))))
  have gz := ao.n (an.n (Y.n (ad.n (X.n (W.n (K.n (J.n (I.n (H.n (G.n (D.n (B.n (ab.n (aa.n (a.n cH)))))))))))))))
  have gA := ao.n (an.n (Y.n (ad.n (X.n (W.n (K.n (J.n (I.n (H.n (G.n (D.n (B.n (ab.n (aa.n (a.n d3)))))))))))))))
  have gB := ao.n (an.n (Y.n c0))
  have gC := ao.n (an.n (Y.n (ad.n (X.n (W.n (K.n (J.n (I.n (H.n (G.n (D.n (B.n (ab.n (aa.n (a.n cI)))))))))))))))
  have gD := ao.n (an.n (Y.n (ad.n (X.n (W.n (K.n (J.n (I.n (H.n (G.n (D.n (B.n (ab.n (aa.n (a.n cJ)))))))))))))))
  exact th_n (hKI198 _ _ _ (by omega) ⟨i + 1, cX, cY, rfl, ao.ok, gj, gx, gy, gz, gA, gB, gC, gD, ao.at_, gk, gl, gm, gi, gs, gt, gq, gn, go, gp, by omega⟩)
 ·refine wp_cond_false ((a.at_).trans (congrArg Value.bool (decide_eq_false cK))) ?_
  refine wp_exit (th_x (th_x (ib_x (th_n (dH _ _ (wp_seq_k (fun iW gE => (regh_start (N := 62) [0, 1, 2, 3, 4, 5, 6, 7, 8] (by kernel_rfl) (fun gF => ?_)))))))))
  have gG := gF.snoc (n' := 1) rfl (fun vJ _ => vJ = .pointer (some ⟨b, 0, none⟩)) rfl (fun _ _ _ _ h => h) (fun aS wS pS => by
    exact Does.val (wn _ rfl) (o_mv ((pS.old 0 rfl).trans (a.n cF))) (Gr.refl _) rfl rfl)
  have gH := gG.snoc (n' := 2) rfl (fun vJ wJ => ∃ (q : List PtX) (ja2 : Option Addr) (jc2 : Nat), vJ = .slice ja2 (List.length q) jc2 ∧ (q.length ≤ S.P.length + 1) ∧ (Sees q S) ∧ (PL 0 wJ (.slice ja2 (List.length q) jc2) q)) rfl (fun _ _ _ g ⟨q, ja2, jc2, h, q0, q1, q2⟩ => ⟨q, ja2, jc2, h, q0, q1, q2.gr g⟩) (fun aS wS pS => by
    have eR340_0 : aS.eval (.tmp 53) = .pointer (some ⟨b, 0, none⟩) := pS.pre 0 rfl
    exact Does.call (wn _ rfl) (o_f1 Tryz.func47 rfl rfl rfl (eR340_0)) (sparts_any b S hO wS (hS0.gr (GI198.trans (gr_drew pS.gr)))) (by rintro _ w2 ⟨q, ja2, jc2, rfl, hF2l, hF2s, hF2f, hF2p, g⟩; exact ⟨_, rfl, g, ⟨q, ja2, jc2, rfl, hF2l, hF2s, hF2p⟩⟩) rfl)
  have gJ := gH.snoc (n' := 3) rfl (fun vJ _ => vJ = .pointer (some ⟨y, 2, none⟩)) rfl (fun _ _ _ _ h => h) (fun aS wS pS => by
    exact Does.val (wn _ rfl) (o_fa (z := 1) ((pS.old 3 rfl).trans (a.n cG)) Tryz.underlying34 rfl (by kernel_rfl) rfl rfl) (Gr.refl _) rfl rfl)
  have gK := gJ.snoc (n' := 4) rfl (fun vJ _ => vJ = .slice ua un uc) rfl (fun _ _ _ _ h => h) (fun aS wS pS => by
    have eR340_2 : aS.eval (.tmp 55) = .pointer (some ⟨y, 2, none⟩) := pS.pre 2 rfl
    exact Does.val (wn _ rfl) (o_ld (eR340_2) (Tryz.isAgg22 _) ((Bk.gr kb3I198 (gr_drew pS.gr)).cell _ rfl)) (Gr.refl _) rfl rfl)
  have gL := gK.snoc (n' := 5) rfl (fun vJ wJ => ∃ (E : List PtX) (na : Option Addr) (nc : Nat), vJ = .tuple #[.slice na (List.length E) nc, .int .i64 0] ∧ (E.length ≤ S.P.length + 1) ∧ (NarS E U S) ∧ (PL 0 wJ (.slice na (List.length E) nc) E)) rfl (fun _ _ _ g ⟨E, na, nc, h, q0, q1, q2⟩ => ⟨E, na, nc, h, q0, q1, q2.gr g⟩) (fun aS wS pS => by
    obtain ⟨q, ja2, jc2, eR340_1, hF2l, hF2s, hF2p⟩ := pS.pre 1 rfl
    have eR340_1 : aS.eval (.tmp 54) = .slice ja2 (List.length q) jc2 := eR340_1
    have eR340_3 : aS.eval (.tmp 56) = .slice ua un uc := pS.pre 3 rfl
    exact Does.call (wn _ rfl) (o_f2 Tryz.func72 rfl rfl rfl (eR340_1) (eR340_3)) (pnar_s _ q _ U S wS hF2l hO.few hF2s hF2p (FO.fs40 (hU.gr0 (GI198.trans (gr_drew pS.gr))))) (by rintro _ w2 ⟨E, na, nc, rfl, hEl, hEn, hEp, g⟩; exact ⟨_, rfl, g, ⟨E, na, nc, rfl, hEl, hEn, hEp⟩⟩) rfl)
  have gM := gL.snoc (n' := 6) rfl (fun vJ wJ => ∃ (E : List PtX) (na : Option Addr) (nc : Nat), vJ = .tuple #[.slice na (List.length E) nc, .int .i64 0] ∧ (E.length ≤ S.P.length + 1) ∧ (NarS E U S) ∧ (PL 0 wJ (.slice na (List.length E) nc) E)) rfl (fun _ _ _ g ⟨E, na, nc, h, q0, q1, q2⟩ => ⟨E, na, nc, h, q0, q1, q2.gr g⟩) (fun aS wS pS => by
    obtain ⟨E, na, nc, eR340_4, hEl, hEn, hEp⟩ := pS.pre 4 rfl
    have eR340_4 : aS.eval (.tmp 57) = .tuple #[.slice na (List.length E) nc, .int .i64 0] := eR340_4
    exact Does.val (wn _ rfl) (o_mv (eR340_4)) (Gr.refl _) ⟨E, na, nc, rfl, hEl, hEn, hEp⟩ rfl)
  have gO := gM.snoc (n' := 7) rfl (fun vJ wJ => ∃ (E : List PtX) (na : Option Addr) (nc : Nat), vJ = .slice na (List.length E) nc ∧ (E.length ≤ S.P.length + 1) ∧ (NarS E U S) ∧ (PL 0 wJ (.slice na (List.length E) nc) E)) rfl (fun _ _ _ g ⟨E, na, nc, h, q0, q1, q2⟩ => ⟨E, na, nc, h, q0, q1, q2.gr g⟩) (fun aS wS pS => by
    obtain ⟨E, na, nc, eR340_5, hEl, hEn, hEp⟩ := pS.pre 5 rfl
    have eR340_5 : aS.eval (.tmp 52) = .tuple #[.slice na (List.length E) nc, .int .i64 0] := eR340_5
    exact Does.val (wn _ rfl) (o_ex (eR340_5) rfl) (Gr.refl _) ⟨E, na, nc, rfl, hEl, hEn, hEp⟩ rfl)
  have gS := gO.snoc (n' := 8) rfl (fun vJ _ => vJ = .int .i64 0) rfl (fun _ _ _ _ h => h) (fun aS wS pS => by
    obtain ⟨E, na, nc, eR340_5, hEl, hEn, hEp⟩ := pS.pre 5 rfl
    have eR340_5 : aS.eval (.tmp 52) = .tuple #[.slice na (List.length E) nc, .int .i64 0] := eR340_5
    exact Does.val (wn _ rfl) (o_ex (eR340_5) rfl) (Gr.refl _) rfl rfl)
  have gT := gS.snoc (n' := 9) rfl (fun vJ _ => vJ = .pointer (some ⟨o, 4, none⟩)) rfl (fun _ _ _ _ h => h) (fun aS wS pS => by
    exact Does.val (wn _ rfl) (o_fa (z := 1) ((pS.old 8 rfl).trans (a.n bL)) Tryz.underlying63 rfl (by kernel_rfl) rfl rfl) (Gr.refl _) rfl rfl)
  have gU := gT.skip (n' := 10) rfl (by kernel_rfl)
  refine gU.runE (e := 7) (j := 9) (de := 59) (v1 := .int .i64 0) (L0 := #[true, true, true, true, true, true, true, true, true, false]) (L1 := #[true, true, true, true, true, true, true, false, true, false]) (by kernel_rfl) (by kernel_rfl) (by kernel_rfl) (by kernel_rfl) (by kernel_rfl) a.ok (by kernel_rfl) (by kernel_rfl) (by kernel_rfl) (by kernel_rfl) (by kernel_rfl) (by kernel_rfl) (by kernel_rfl) (by kernel_rfl) rfl rfl rfl rfl rfl (fun _ => wn _ rfl) (fun _ => wn _ rfl) (by kernel_rfl) (fun v w h => h) (fun ap342 i0 a1 => ?_)
  have ba := gr_drew a1.gr
  have gV := GI198.trans ba
  have gW := kb14I198.gr ba
  have bT := kb84I198.gr ba
  have gX := ow_gr ogrI198 ba
  have gY := fk1I198.gr0 ba
  have gZ := fk2I198.gr0 ba
  obtain ⟨q, ja2, jc2, ep342_1, hF2l, hF2s, hF2p⟩ := a1.js 1 rfl rfl
  have ep342_1 : ap342.eval (.tmp 54) = .slice ja2 (List.length q) jc2 := ep342_1
  obtain ⟨E, na, nc, ep342_6, hEl, hEn, hEp⟩ := a1.js 6 rfl rfl
  have ep342_6 : ap342.eval (.tmp 58) = .slice na (List.length E) nc := ep342_6
  obtain ⟨EL, naL, ncL, eLp342, -, -, -⟩ := a1.js 5 rfl rfl
  refine ⟨o, 4, .slice na (List.length E) nc, #[.int .i64 (m2 : Int), .int .i64 (s2 : Int), .slice ra (List.length K1) rc, .slice ga i gc, .slice none 0 0], 63, bT, fun w1 => o_ex eLp342 rfl, ?_, ?_⟩
  ·intro aq356 c1
   have ep342_8 : ap342.eval (.tmp 60) = .pointer (some ⟨o, 4, none⟩) := a1.js 8 rfl rfl
   exact o_st ((c1 60 rfl).trans ep342_8) ((c1 58 rfl).trans ep342_6) bT rfl (by kernel_rfl) rfl
  intro i1 g0 bU bb g2
  have g3 : Gr w g0 := Below.upd gV bp bb
  have bV := gW.upd bb (Nat.ne_of_lt bo)
  have g4 := ow_upd gX bb bK
  have g5 := gY.updL bb bG
  have g6 := gZ.updL bb cu
  have g7 := hEp.tkw (tkw_upd bb bT (by decide))
  refine wpAny_done (by kernel_rfl) ?_ _
  refine th_n (gE _ _ (wp_seq_k (fun i2 g8 => (wp_region_lit ?_))))
  have g9 := bU.n ((a1.old 8 rfl).trans (a.n bL))
  refine sw bU.ok (o_ldR g9 g2 Tryz.underlying63 rfl (by kernel_rfl)) (fun i3 bW => ?_)
  have c2 := bW.n (bU.n ((a1.old 4 rfl).trans (a.n cH)))
  refine ssR rfl (wn _ rfl) (o_stR c2 bW.at_ bV (by kernel_rfl) rfl (by first | (simp [Value.oneCell']; done) | (rw [← Array.all_toList]; simp [Value.oneCell']))) bV (fun ha bi hc => ?_)
  have hf : Gr w ha := Below.upd g3 c8 bi
  have hg := ow_upd g4 bi cE
  have hh := g5.updL bi dx
  have hi := g6.updL bi dK
  have hj := g7.tkw (tkw_upd bi bV (by decide))
  refine sw bW.ok (o_as ev_const) (fun i4 bX => ?_)
  refine wpList_nil (th_n (g8 _ _ (wp_ret (ret2 bX.ok rfl (⟨_, _, (bX.n c2), ld_row hc Tryz.underlying63 rfl (by kernel_rfl)⟩) (bX.at_) ⟨K1, K2, E, ra, rc, ga, gc, na, nc, by have e : i = K2.length := (by omega); subst e; rfl, bz, cy, hEl, hEn, ResK.any hh, ⟨ow_any (by have h := hg; have e : i = K2.length := (by omega); subst e; rw [List.take_length] at h; exact h), hi.2.base (Nat.zero_le _)⟩, hj, hf⟩))))
end Go.Proofs.YtglbnggkkjhokaaGreat
/- A site that makes versions. -/
namespace Go.Proofs.YtglbnggkkjhokaaGreat
open Go.RowKit Rm Gx
structure MkI (S : SiD) : Prop where
  ok : SiOk S
  made : S.made ≤ 40
  len : S.L.length ≤ S.made
  own : ∀ x ∈ S.L, x.s = (S.me : Int) ∧ 1 ≤ x.c ∧ x.c ≤ (S.made : Int)
  from_ : ∀ x ∈ S.L, ∀ s c, dsV x s c = true → s = S.me ∧ 1 ≤ c ∧ c ≤ S.made
theorem MkI.new {me : Nat} {T : Nat → Nat} (h : me < 5) : MkI ⟨me, 0, 0, T, [], []⟩ where
 ok := ⟨h, Nat.zero_le _, Nat.zero_le _, ⟨Nat.zero_le _, fun x hx => (by cases hx), List.Pairwise.nil, fun x hx => (by cases hx)⟩, Nat.zero_le _⟩
 made := Nat.zero_le _
 len := Nat.le_refl _
 own := fun x hx => (by cases hx)
 from_ := fun x hx => (by cases hx)
theorem MkI.pd {S : SiD} (h : MkI S) {id : List UInt8} {s c : Nat} (q : pD S.L id s c = true) : s = S.me ∧ 1 ≤ c ∧ c ≤ S.made := by
 obtain ⟨x, hx, -, h1 | ⟨h1, h2⟩⟩ := pD_of q
 ·exact h.from_ x hx s c h1
 ·obtain ⟨e1, e2, e3⟩ := h.own x hx
  omega
theorem MkI.few {S : SiD} (h : MkI S) (id : List UInt8) : (formM (pD S.L id)).length ≤ 60 := by
 have hme := h.ok.me
 have hmd := h.made
 have key : ∀ s c, s < 5 → c ≤ 1000 → pD S.L id s c = true → 1 ≤ c ∧ c ≤ cv (setC [] S.me S.made) s := fun s c hs hc q => by
  obtain ⟨e, h1, h2⟩ := h.pd q
  rw [cv_setC _ _ _ _ hme hs, if_pos e]
  exact ⟨h1, h2⟩
 refine form_sum key ?_
 have e : ∀ s, s < 5 → cv (setC [] S.me S.made) s = if s = S.me then S.made else 0 := fun s hs => by
  rw [cv_setC _ _ _ _ hme hs]
  split <;> simp [cv]
 rw [e 0 (by omega), e 1 (by omega), e 2 (by omega), e 3 (by omega), e 4 (by omega)]
 have : S.me = 0 ∨ S.me = 1 ∨ S.me = 2 ∨ S.me = 3 ∨ S.me = 4 := by omega
 rcases this with q | q | q | q | q <;> rw [q] <;> simp <;> omega
theorem newD_ds (S : SiD) (id : List UInt8) (t n d : Int) (a q : Nat) : dsV (newD S id t n d) a q = memB (formV (pD S.L id)) (formM (pD S.L id)) a q := by
 unfold dsV newD
 simp only [ints_nat, pairs_nat]
theorem MkI.nds {S : SiD} (h : MkI S) {id : List UInt8} {t n d : Int} {a q : Nat} (hq : dsV (newD S id t n d) a q = true) : a = S.me ∧ 1 ≤ q ∧ q ≤ S.made := by
 rw [newD_ds] at hq
 have hi := (form_ok (pD S.L id)).inR hq
 rw [form_mem (pD S.L id) a q hi] at hq
 exact h.pd hq
theorem MkI.one {S : SiD} (h : MkI S) {id : List UInt8} {t n d : Int} (hid : idB id = true) (ht : 0 ≤ t ∧ t < 16) (hn : 0 ≤ n ∧ n < 32) (hd : 0 ≤ d ∧ d ≤ 1000000) : chkOne (newD S id t n d) = 0 := by
 have hme := h.ok.me
 have hmd := h.made
 have h1 : idB (newD S id t n d).id = true := hid
 have h2 : argB (newD S id t n d) = true := by
  unfold argB newD
  have d1 : dotB ((S.me : Int), ((S.made + 1 : Nat) : Int)) = true := by rw [dotB_iff]; simp only; omega
  have d2 : ptB t n = true := by rw [ptB_iff]; omega
  simp only [d1, d2, Bool.true_and, Bool.and_eq_true, decide_eq_true_eq]
  omega
 have h3 : chkK (newD S id t n d).V (newD S id t n d).M = 0 := by unfold newD; simp only; exact (form_ok _).chk (h.few id)
 have h4 : memI (newD S id t n d).V (newD S id t n d).M (newD S id t n d).s (newD S id t n d).c = false := by
  cases q : memI (newD S id t n d).V (newD S id t n d).M (newD S id t n d).s (newD S id t n d).c
  ·rfl
  ·exfalso
   have q' : dsV (newD S id t n d) (newD S id t n d).s.toNat (newD S id t n d).c.toNat = true := q
   obtain ⟨-, -, e⟩ := h.nds q'
   have : (newD S id t n d).c.toNat = S.made + 1 := by unfold newD; simp only; exact Int.toNat_natCast _
   omega
 unfold chkOne
 rw [if_neg (by rw [h1]; simp), if_neg (by rw [h2]; simp), if_neg (by rw [h3]; simp), if_neg (by rw [h4]; simp)]
theorem MkI.held {S : SiD} (h : MkI S) (id : List UInt8) (t n d : Int) : svHeld S.L (newD S id t n d) = false := by
 cases q : svHeld S.L (newD S id t n d)
 ·rfl
 exfalso
 have ec : (newD S id t n d).c = ((S.made + 1 : Nat) : Int) := rfl
 unfold svHeld at q
 rw [Bool.or_eq_true] at q
 rcases q with q | q
 ·obtain ⟨x, hx, e⟩ := List.any_eq_true.1 q
  rw [decide_eq_true_eq, cmpV_eq] at e
  have e2 := e.2.2
  rw [ec] at e2
  have := h.own x hx
  omega
 ·obtain ⟨x, hx, e⟩ := List.any_eq_true.1 q
  obtain ⟨-, -, e2⟩ := h.from_ x hx _ _ ((ovB_iff _ _).1 e).2
  rw [ec] at e2
  omega
theorem MkI.kl {S : SiD} (h : MkI S) (y : VerD) : (svKeep S.L y).length ≤ S.made := Nat.le_trans (List.length_filter_le _ _) h.len
theorem MkI.put {S : SiD} (h : MkI S) {id : List UInt8} {t n d : Int} (hone : chkOne (newD S id t n d) = 0) : putE S.L (newD S id t n d) = 0 ∧ putL S.L (newD S id t n d) = svIns (svKeep S.L (newD S id t n d)) (newD S id t n d) := by
 have hk := h.kl (newD S id t n d)
 have hmd := h.made
 have hh : ¬ svHeld S.L (newD S id t n d) = true := by rw [h.held]; simp
 have hl : ¬ (svKeep S.L (newD S id t n d)).length = 60 := by omega
 unfold putE putL
 rw [if_pos ((okS_iff _).2 h.ok.ok), if_pos ((okS_iff _).2 h.ok.ok), if_pos hone, if_pos hone, if_neg hh, if_neg hh, if_neg hl, if_neg hl]
 exact ⟨rfl, rfl⟩
theorem MkI.step {S : SiD} (h : MkI S) {id : List UInt8} {t n d : Int} (hone : chkOne (newD S id t n d) = 0) (hm : S.made < 40) : MkI (mkS S id t n d) := by
 have hk := h.kl (newD S id t n d)
 have hp := (h.put hone).2
 have hmem : ∀ x, x ∈ (mkS S id t n d).L → x = newD S id t n d ∨ x ∈ S.L := fun x hx => by
  have hx : x ∈ putL S.L (newD S id t n d) := hx
  rw [hp] at hx
  rcases svIns_mem.1 hx with hx | hx
  ·exact .inl hx
  ·exact .inr (List.mem_filter.1 hx).1
 have e : (mkS S id t n d).made = S.made + 1 := rfl
 have em : (mkS S id t n d).me = S.me := rfl
 refine ⟨⟨h.ok.me, by rw [e]; omega, h.ok.st, ?_, h.ok.few⟩, by rw [e]; omega, ?_, fun x hx => ?_, fun x hx s c hq => ?_⟩
 ·show OkS (putL S.L (newD S id t n d))
  rw [hp]
  exact svPut_ok h.ok.ok hone (h.held ..) (by omega)
 ·show (putL S.L (newD S id t n d)).length ≤ S.made + 1
  rw [hp, svIns_len]
  omega
 ·rw [e, em]
  rcases hmem x hx with rfl | hx
  ·refine ⟨rfl, ?_, Int.le_refl _⟩
   show 1 ≤ ((S.made + 1 : Nat) : Int)
   omega
  ·have := h.own x hx
   omega
 ·rw [e, em]
  rcases hmem x hx with rfl | hx
  ·have := h.nds hq
   omega
  ·have := h.from_ x hx s c hq
   omega
end Go.Proofs.YtglbnggkkjhokaaGreat
