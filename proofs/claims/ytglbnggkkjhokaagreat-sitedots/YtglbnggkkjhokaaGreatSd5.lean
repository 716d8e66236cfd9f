/- Joined: ShQ, ShR, ShS, ShT, ShU, SiA, GxM, SiB, SiC, SiD, SiE, SiG, GxN, SiH, SiI. -/
import Derived.Test.YtglbnggkkjhokaaGreatSd4
import Derived.Laws.AppendOwnNone
import Derived.Laws.Pointers
set_option linter.unusedVariables false
set_option linter.unusedSimpArgs false
set_option maxHeartbeats 8000000
set_option maxRecDepth 100000
/- Dots added in order: the dots behind the vector only grow. -/
namespace Rm
open Go Go.RowKit
theorem runTo_mono {D E : DS} {s : Nat} (h : ∀ c, D s c = true → E s c = true) : ∀ n, runTo D s n ≤ runTo E s n
 | 0 => Nat.le_refl _
 | n + 1 => by
  have ih := runTo_mono h n
  have h1 := runTo_le E s n
  unfold runTo
  split
  ·rename_i q
   rw [if_pos ⟨by omega, h _ q.2⟩]
   exact Nat.le_refl _
  ·split
   ·have := runTo_le D s n; omega
   ·exact ih
theorem run_mono {D E : DS} {s : Nat} (h : ∀ c, D s c = true → E s c = true) : run D s ≤ run E s := runTo_mono h 1000
theorem run_all {D : DS} {s c : Nat} (h1 : 1 ≤ c) (h2 : c ≤ run D s) : D s c = true := runTo_all D s 1000 c h1 h2
theorem run_gap {D : DS} {s : Nat} (h : run D s < 1000) : D s (run D s + 1) = false := runTo_gap D s 1000 h
theorem run_lt {D : DS} {s c : Nat} (h1 : 1 ≤ c) (h : D s c = false) : run D s < c := by
  rcases Nat.lt_or_ge (run D s) c with q | q
  · exact q
  · rw [run_all h1 q] at h; cases h
theorem filter_le {α : Type} {p q : α → Bool} (h : ∀ x, p x = true → q x = true) : ∀ l : List α, (l.filter p).length ≤ (l.filter q).length
 | [] => Nat.le_refl _
 | a :: l => by
  have ih := filter_le h l
  rw [List.filter_cons, List.filter_cons]
  by_cases hp : p a = true
  ·rw [if_pos hp, if_pos (h a hp)]; simpa using ih
  ·rw [if_neg hp]
   split
   ·simp only [List.length_cons]; omega
   ·exact ih
theorem flatMap_le {α β : Type} {f g : α → List β} : ∀ l : List α, (∀ x ∈ l, (f x).length ≤ (g x).length) → (l.flatMap f).length ≤ (l.flatMap g).length
 | [], _ => Nat.le_refl _
 | a :: l, h => by
  rw [List.flatMap_cons, List.flatMap_cons, List.length_append, List.length_append]
  have := h a (List.mem_cons_self ..)
  have := flatMap_le l fun x hx => h x (List.mem_cons_of_mem _ hx)
  omega
theorem mem_formM (D : DS) (d : Nat × Nat) : d ∈ formM D ↔ d.1 < 5 ∧ d.2 ≤ 1000 ∧ run D d.1 + 2 ≤ d.2 ∧ D d.1 d.2 = true := by
 unfold formM
 rw [List.mem_flatMap]
 constructor
 ·rintro ⟨s, hs, h⟩
  obtain ⟨h1, h2, h3, h4⟩ := (mem_restD D s d).1 h
  rw [List.mem_range] at hs
  subst h1
  exact ⟨hs, h2, h3, h4⟩
 ·rintro ⟨h1, h2, h3, h4⟩
  exact ⟨d.1, List.mem_range.2 h1, (mem_restD D d.1 d).2 ⟨rfl, h2, h3, h4⟩⟩
theorem formM_add {D : DS} {a b : Nat} (hd : inR a b) (h : ∀ x ∈ formM D, ltD x (a, b)) : (formM D).length ≤ (formM (addD D a b)).length := by
  refine flatMap_le _ fun s hs => ?_
  have hs5 := List.mem_range.1 hs
  unfold restD
  rw [List.length_map, List.length_map]
  by_cases hsa : s = a
  · subst hsa
    by_cases hb : b = run D s + 1
    · -- nothing lies behind the vector there
      have h0 : ((List.range 1001).filter fun c => decide (run D s + 2 ≤ c) && D s c) = [] := by
        rw [List.filter_eq_nil_iff]
        intro c hc q
        rw [Bool.and_eq_true, decide_eq_true_eq] at q
        rw [List.mem_range] at hc
        have := h (s, c) ((mem_formM D (s, c)).2 ⟨hs5, by simp only; omega, q.1, q.2⟩)
        unfold ltD at this
        simp only at this
        omega
      rw [h0]
      exact Nat.zero_le _
    · have hr : run (addD D s b) s = run D s := by
        apply Nat.le_antisymm
        · rcases Nat.lt_or_ge (run D s) 1000 with q | q
          · have g := run_gap q
            have g2 : addD D s b s (run D s + 1) = false := by
              unfold addD
              rw [g, Bool.false_or, decide_eq_false_iff_not]
              omega
            have := run_lt (by omega) g2
            omega
          · have := run_le (addD D s b) s
            have := run_le D s
            omega
        · exact run_mono fun c hc => by unfold addD; rw [hc]; rfl
      refine filter_le (fun c hc => ?_) _
      rw [Bool.and_eq_true] at hc ⊢
      rw [hr]
      exact ⟨hc.1, by unfold addD; rw [hc.2]; rfl⟩
  · have he : ∀ c, addD D a b s c = D s c := fun c => by
      unfold addD
      rw [decide_eq_false (fun q => hsa q.1), Bool.or_false]
    have hr : run (addD D a b) s = run D s := Nat.le_antisymm (run_mono fun c hc => by rw [← he c]; exact hc) (run_mono fun c hc => by rw [he c]; exact hc)
    refine filter_le (fun c hc => ?_) _
    rw [Bool.and_eq_true] at hc ⊢
    rw [hr, he c]
    exact hc
def addS (D : DS) (L : List (Nat × Nat)) : DS := fun s c => D s c || decide ((s, c) ∈ L)
theorem addS_nil (D : DS) : addS D [] = D := by
 funext s c
 simp [addS]
theorem addS_snoc (D : DS) (L : List (Nat × Nat)) (a b : Nat) : addD (addS D L) a b = addS D (L ++ [(a, b)]) := by
 funext s c
 unfold addD addS
 rw [Bool.eq_iff_iff]
 simp only [Bool.or_eq_true, decide_eq_true_eq, List.mem_append, List.mem_singleton, Prod.mk.injEq, or_assoc]
theorem addS_congr (D : DS) {L L' : List (Nat × Nat)} (h : ∀ x, x ∈ L ↔ x ∈ L') : addS D L = addS D L' := by
 funext s c
 unfold addS
 rw [Bool.eq_iff_iff]
 simp only [Bool.or_eq_true, decide_eq_true_eq, h]
def Pure (D : DS) : Prop := ∀ s c, inR s c → D s c = true → c ≤ run D s
theorem addS_lt {D : DS} {L : List (Nat × Nat)} {i : Nat} {d : Nat × Nat} (hD : Pure D) (hL : L.Pairwise ltD) (hd : L[i]? = some d) : ∀ x ∈ formM (addS D (L.take i)), ltD x d := fun x hx => by
 obtain ⟨h1, h2, h3, h4⟩ := (mem_formM _ x).1 hx
 unfold addS at h4
 rw [Bool.or_eq_true, decide_eq_true_eq] at h4
 rcases h4 with h4 | h4
 ·have h5 := hD x.1 x.2 ⟨h1, by omega, h2⟩ h4
  have h6 : run D x.1 ≤ run (addS D (L.take i)) x.1 := run_mono fun c hc => by unfold addS; rw [hc]; rfl
  omega
 ·obtain ⟨j, hj⟩ := List.getElem?_of_mem h4
  have hl := (List.getElem?_eq_some_iff.1 hj).1
  rw [List.length_take] at hl
  rw [List.getElem?_take_of_lt (by omega)] at hj
  obtain ⟨p1, e1⟩ := List.getElem?_eq_some_iff.1 hj
  obtain ⟨p2, e2⟩ := List.getElem?_eq_some_iff.1 hd
  have := List.pairwise_iff_getElem.1 hL j i p1 p2 (by omega)
  rw [e1, e2] at this
  exact this
theorem take_snocD {L : List (Nat × Nat)} {i : Nat} {d : Nat × Nat} (hd : L[i]? = some d) : L.take (i + 1) = L.take i ++ [d] := by
 rw [List.take_add_one, hd]
 rfl
theorem addS_step {D : DS} {L : List (Nat × Nat)} {i : Nat} {d : Nat × Nat} (hd : L[i]? = some d) : addD (addS D (L.take i)) d.1 d.2 = addS D (L.take (i + 1)) := by
 rw [addS_snoc, take_snocD hd]
theorem addS_le {D : DS} {L : List (Nat × Nat)} (hD : Pure D) (hL : L.Pairwise ltD) (hR : ∀ d ∈ L, inR d.1 d.2) : ∀ n i, i + n = L.length → (formM (addS D (L.take i))).length ≤ (formM (addS D L)).length
 | 0, i, h => by rw [List.take_of_length_le (by omega)]; exact Nat.le_refl _
 | n + 1, i, h => by
  obtain ⟨d, hd⟩ : ∃ d, L[i]? = some d := ⟨_, List.getElem?_eq_getElem (by omega)⟩
  have h1 := formM_add (hR d (List.mem_of_getElem? hd)) (addS_lt hD hL hd)
  rw [addS_step hd] at h1
  exact Nat.le_trans h1 (addS_le hD hL hR n (i + 1) (by omega))
theorem Pure.formM {D : DS} (h : Pure D) : formM D = [] := by
 apply List.eq_nil_iff_forall_not_mem.2
 intro x hx
 obtain ⟨h1, h2, h3, h4⟩ := (mem_formM D x).1 hx
 have := h x.1 x.2 ⟨h1, by omega, h2⟩ h4
 omega
theorem pure_of {D : DS} (h : ∀ s c, inR s (c + 1) → 1 ≤ c → D s (c + 1) = true → D s c = true) : Pure D := fun s c hi hc => by
  rcases Nat.lt_or_ge (run D s) c with q | q
  · exfalso
    have hg := run_gap (show run D s < 1000 by have := hi.2.2; omega)
    have key : ∀ k, k ≤ c - (run D s + 1) → D s (c - k) = true := by
      intro k
      induction k with
      | zero => intro _; exact hc
      | succ k ih =>
        intro hk
        have h1 := ih (by omega)
        have h2 := hi.1
        have h3 := hi.2.2
        refine h s (c - (k + 1)) ⟨h2, by omega, by omega⟩ (by omega) ?_
        rw [show c - (k + 1) + 1 = c - k by omega]
        exact h1
    have := key (c - (run D s + 1)) (Nat.le_refl _)
    rw [show c - (c - (run D s + 1)) = run D s + 1 by omega, hg] at this
    cases this
  · exact q
theorem Pure.down {D : DS} (h : Pure D) {s c : Nat} (hi : inR s (c + 1)) (hc : 1 ≤ c) (hd : D s (c + 1) = true) : D s c = true := run_all hc (by have := h s (c + 1) hi hd; omega)
theorem Pure.or {D E : DS} (h : Pure D) (k : Pure E) : Pure (orD D E) := pure_of fun s c hi hc hd => by
 unfold orD at hd ⊢
 rw [Bool.or_eq_true] at hd ⊢
 rcases hd with hd | hd
 ·exact .inl (h.down hi hc hd)
 ·exact .inr (k.down hi hc hd)
theorem pure_vec (v : List Nat) : Pure (memB v []) := pure_of fun s c hi hc hd => by
 rw [memB_iff] at hd ⊢
 rcases hd with hd | hd
 ·exact .inl ⟨hc, by omega⟩
 ·cases hd
open Go Go.RowKit Gx
theorem encD_ok : EncOk encD 2 := ⟨fun x => rfl, fun x u hu => by
 simp [encD] at hu
 rcases hu with rfl | rfl <;> rfl⟩
theorem flat_encD (l : List (Nat × Nat)) : flat (pairs l) = flatE encD l := by
 unfold flat pairs flatE
 rw [List.flatMap_map]
 rfl
theorem ddT_memL {L L1 : List (Nat × Nat)} (h : L1.Perm L) (x : Nat × Nat) : x ∈ ddT L1 L1.length ↔ x ∈ L := by
 rw [ddT_mem (Nat.le_refl _), ← h.mem_iff]
 constructor
 ·rintro ⟨j, -, hj⟩; exact List.mem_of_getElem? hj
 ·intro hx
  obtain ⟨j, hj⟩ := List.getElem?_of_mem hx
  exact ⟨j, (List.getElem?_eq_some_iff.1 hj).1, hj⟩
end Rm
namespace Go.Proofs.YtglbnggkkjhokaaGreat
open Go.RowKit Rm Gx
def NoM (mv : Value) : Prop := ∀ w : World, Rd2 w mv [] ∧ RdC 2 w mv 0 []
theorem noM_of {w : World} {vv mv : Value} {V : List Int} (h : KnR w (.agg #[vv, mv]) V []) : NoM mv := fun w' => by
 obtain ⟨a, b, e, -, h2, h3⟩ := h
 have e2 : mv = b := by
  injection e with e
  have e := congrArg Array.toList e
  simpa using (List.cons.inj (List.cons.inj e).2).1
 obtain rfl := e2.symm
 obtain ⟨ad, c, rfl, hc, -⟩ := h2
 refine ⟨⟨ad, c, rfl, hc, fun q => absurd rfl q⟩, rfl, (fun u hu => by cases hu), ?_⟩
 obtain ⟨-, -, h4 | ⟨ad', c', e', hc', -⟩⟩ := h3
 ·exact .inl h4
 ·exact .inr ⟨ad', c', e', hc', fun q => absurd rfl q, fun j u hj => by simp at hj⟩
theorem noM_nil : NoM (.slice none 0 0) := fun w' => ⟨⟨none, 0, rfl, Nat.le_refl _, fun q => absurd rfl q⟩, rfl, (fun u hu => by cases hu), .inl ⟨rfl, rfl⟩⟩
theorem knR_vecM {w : World} {base : Nat} {vv mv : Value} {v : List Nat} (h : w.ownsRow base 3 1 vv v.length (flatI v)) (hm : NoM mv) : KnR w (.agg #[vv, mv]) (ints v) [] := ⟨vv, mv, rfl, R1.own h, (hm w).1, (hm w).2⟩
def KnW (base : Nat) (w : World) (k : Value) (v : List Nat) (m : List (Nat × Nat)) : Prop :=
  ∃ vv mv, k = .agg #[vv, mv] ∧ w.ownsRow base 3 1 vv v.length (flatI v) ∧ (w.ownsRow base 51 2 mv m.length (flat (pairs m)) ∨ (m = [] ∧ NoM mv))
theorem KnW.of {base : Nat} {w : World} {k : Value} {v : List Nat} {m : List (Nat × Nat)} (h : KnO base w k v m) : KnW base w k v m := by
 obtain ⟨vv, mv, e, h1, h2⟩ := h
 exact ⟨vv, mv, e, h1, .inl h2⟩
theorem KnW.rd {base : Nat} {w : World} {k : Value} {v : List Nat} {m : List (Nat × Nat)} (h : KnW base w k v m) : KnR w k (ints v) (pairs m) := by
 obtain ⟨vv, mv, rfl, h1, h2 | ⟨rfl, h2⟩⟩ := h
 ·exact KnO.rd ⟨vv, mv, rfl, h1, h2⟩
 ·exact knR_vecM h1 h2
theorem KnW.gr {base : Nat} {w w' : World} {k : Value} {v : List Nat} {m : List (Nat × Nat)} (h : KnW base w k v m) (g : Gr w w') : KnW base w' k v m := by
 obtain ⟨vv, mv, e, h1, h2 | h2⟩ := h
 ·exact ⟨vv, mv, e, kown_gr h1 g, .inl (kown_gr h2 g)⟩
 ·exact ⟨vv, mv, e, kown_gr h1 g, .inr h2⟩
theorem KnW.tks {base : Nat} {w w' : World} {k : Value} {v : List Nat} {m : List (Nat × Nat)} (h : KnW base w k v m) (q : TkS w w') : KnW base w' k v m := by
 obtain ⟨vv, mv, e, h1, h2 | h2⟩ := h
 ·exact ⟨vv, mv, e, ow_tks h1 q (by decide), .inl (ow_tks h2 q (by decide))⟩
 ·exact ⟨vv, mv, e, ow_tks h1 q (by decide), .inr h2⟩
theorem KnW.vec {base : Nat} {w : World} {vv mv : Value} {v : List Nat} (h : w.ownsRow base 3 1 vv v.length (flatI v)) (hm : NoM mv) : KnW base w (.agg #[vv, mv]) v [] := ⟨vv, mv, rfl, h, .inr ⟨rfl, hm⟩⟩
theorem add_c (k : Value) (E : DS) (d : Nat × Nat) (base : Nat) (w : World) (hb : base ≤ w.heap.size) (hk : KnR w k (ints (formV E)) (pairs (formM E))) (hl : (formM E).length ≤ 60) (hd : inR d.1 d.2) :
    Calls Tryz.prog 186 #[k, .agg #[.int .i64 (d.1 : Int), .int .i64 (d.2 : Int)]] w fun e w' => ∃ va n vc ma m mc, e = .returned (.tuple #[.agg #[.slice va n vc, .slice ma m mc], .int .i64 (frE (addD E d.1 d.2))]) ∧ KnW base w' (.agg #[.slice va n vc, .slice ma m mc]) (frV (addD E d.1 d.2)) (frM (addD E d.1 d.2)) ∧ Gr w w' := by
  refine (add_ok k (formV E) (formM E) d.1 d.2 w hk (form_ok E) hl hd).mono ?_
  rintro e w' ⟨h, g⟩
  have he : EqD (addD (memB (formV E) (formM E)) d.1 d.2) (addD E d.1 d.2) := fun s c i => by
    unfold addD
    rw [form_mem E s c i]
  obtain ⟨k2, rfl, h2⟩ := (h.congr he).one
  have h3 := KnW.of (h2.less hb)
  obtain ⟨vv, mv, rfl, h4, h5⟩ := h2
  obtain ⟨a, c, rfl, -⟩ := ow_form h4
  obtain ⟨a', c', rfl, -⟩ := ow_form h5
  exact ⟨_, _, _, _, _, _, rfl, h3, g⟩
theorem frE_zero {D : DS} (h : frE D = 0) : (formM D).length ≤ 60 := by
 unfold frE at h
 split at h
 ·assumption
 ·cases h
theorem fr_small {D : DS} (h : frE D = 0) : frV D = formV D ∧ frM D = formM D := by
 have q := frE_zero h
 unfold frV frM
 rw [if_pos q, if_pos q]
 exact ⟨rfl, rfl⟩
theorem fr_of {D : DS} (h : (formM D).length ≤ 60) : frE D = 0 ∧ frV D = formV D ∧ frM D = formM D := by
 unfold frE frV frM
 rw [if_pos h, if_pos h, if_pos h]
 exact ⟨rfl, rfl, rfl⟩
theorem fr_over {D E : DS} (h : ¬ frE D = 0) (hl : (formM D).length ≤ (formM E).length) : frE D = 2 ∧ frE E = 2 ∧ frV E = [] ∧ frM E = [] := by
 have h1 : ¬ (formM D).length ≤ 60 := fun q => h (fr_of q).1
 have h2 : ¬ (formM E).length ≤ 60 := by omega
 unfold frE frV frM
 rw [if_neg h1, if_neg h2, if_neg h2, if_neg h2]
 exact ⟨rfl, rfl, rfl, rfl⟩
end Go.Proofs.YtglbnggkkjhokaaGreat
/- shelf.addAll. -/
namespace Go.Proofs.YtglbnggkkjhokaaGreat
open Go.RowKit Rm Gx
theorem addAll_any (D : DS) (L : List (Nat × Nat)) (ka kc ra : Option Addr) (kb kd rc base : Nat) (hD : Pure D) (hR : ∀ d ∈ L, inR d.1 d.2) (hl : L.length ≤ 10000) (hN : NoM (.slice kc 0 kd)) (w0 w : World) (hG : Gr w0 w) (hB : w0.heap.size ≤ base) (hz : base ≤ w.heap.size) (ho : w.ownsRow base 51 2 (.slice ra L.length rc) L.length (flat (pairs L))) (hv : w.ownsRow base 3 1 (.slice ka (formV D).length kb) (formV D).length (flatI (formV D))) :
  Calls Tryz.prog 134 #[.agg #[.slice ka ((formV D).length) kb, .slice kc 0 kd], .slice ra L.length rc] w fun e w' => ∃ k, e = .returned (.tuple #[k, .int .i64 (frE (addS D L))]) ∧ KnW base w' k (frV (addS D L)) (frM (addS D L)) ∧ w.grownBy w' (Value.ownBlock (.slice ra L.length rc)) := by
 refine enter (N := 30) Tryz.func134 rfl rfl rfl (fun a0 ok0 h0 => ?_)
 have aZ : a0.eval (.tmp 0) = .agg #[.slice ka ((formV D).length) kb, .slice kc 0 kd] := h0 0 _ rfl
 have a1 : a0.eval (.tmp 1) = .slice ra L.length rc := h0 1 _ rfl
 clear h0
 refine wp_seq_k (fun K1 a2 => (wp_region_lit (sal (cs := #[.slice ka ((formV D).length) kb, .slice kc 0 kd]) ok0 rfl (wn _ rfl) rfl (o_box aZ) (fun cK w4 K n n2 => ?_))))
 have l6 : w0.heap.size ≤ K := by rw [n.eq]; exact hG.size
 have l7 : ∀ k, Value.ownBlock (.slice ra L.length rc) = some k → k < K := fun k e => by rw [n.eq]; exact ow_in ho k e
 have l9 : w.heap.size ≤ K := by rw [n.eq]; exact (gb_self : w.grownBy w (Value.ownBlock (.slice ra L.length rc))).size
 have a7 := hG.trans n.gr
 have a8 := Nat.le_trans hz n.gr.size
 have aD := ow_gr ho n.gr
 have a9 := ow_gr hv n.gr
 have aE := gb_gr (gb_self : w.grownBy w (Value.ownBlock (.slice ra L.length rc))) n.gr
 refine sal (cs := #[.slice none 0 0, .slice none 0 0]) n2.ok rfl (wn _ rfl) rfl (o_al (z := .agg #[.slice none 0 0, .slice none 0 0]) (by kernel_rfl)) (fun cM ba U o ah => ?_)
 have bb : K < U := by rw [o.eq]; exact n.bk.lt
 have bc : ∀ k, Value.ownBlock (.slice ra L.length rc) = some k → k < U := fun k e => by rw [o.eq]; exact ow_in aD k e
 have aF : w.heap.size ≤ U := by rw [o.eq]; exact aE.size
 have bd := a7.trans o.gr
 have bf := n.bk.gr o.gr
 have bg := Nat.le_trans a8 o.gr.size
 have ar := ow_gr aD o.gr
 have bh := ow_gr a9 o.gr
 have bi := gb_gr aE o.gr
 refine sw ah.ok (o_as ev_const) (fun cO ad => ?_)
 refine wpList_nil (th_n (a2 _ _ (wp_seq_k (fun cS bj => (wp_region_lit ?_)))))
 have aG := ad.n (ah.n (n2.n a1))
 refine sw ad.ok (o_mv aG) (fun cT V => ?_)
 refine sc V.ok rfl (wn _ rfl) rfl (o_f2 Tryz.func183 rfl rfl rfl V.at_ ev_func) (sort_ownS L _ ba base hl ar) ?_
 rintro _ bl ⟨rfl, a, ai, hs1, ho1, W⟩
 refine ⟨_, rfl, fun cU af => ?_⟩
 have bm := Gr.grown bd W (fun k e => Nat.le_trans hB (ow_lt ar k e))
 have bn := bf.grown_ne W l7
 have bo := o.bk.grown_ne W bc
 have bp := Nat.le_trans bg W.size
 have bq := ow_grown bh ar W rfl
 have br := gb_gb bi W
 refine wpList_nil (th_n (bj _ _ (wp_seq_k (fun cV bt => (wp_seq_k (fun cW bu => (wp_region_lit (sw af.ok (o_mv (af.n (V.n aG))) (fun cX ag => ?_)))))))))
 refine sc ag.ok rfl (wn _ rfl) rfl (o_f1 Tryz.func185 rfl rfl rfl ag.at_) (compact_ownS a _ bl base (by rw [ai.length_eq]; exact hl) ho1) ?_
 rintro _ bv ⟨u2, rfl, hob2, ho2, X⟩
 obtain ⟨da, dc, rfl, -⟩ := ow_form ho2
 have hlD : (ddT a a.length).length ≤ L.length := Nat.le_trans (ddT_len _ _) (Nat.le_of_eq ai.length_eq)
 have hMs := ddT_sort hs1 (Nat.le_refl _)
 have hMR : ∀ d ∈ (ddT a a.length), inR d.1 d.2 := fun d hd => hR d ((ddT_memL ai d).1 hd)
 have hF : addS D L = addS D (ddT a a.length) := addS_congr D fun x => (ddT_memL ai x).symm
 refine ⟨_, rfl, fun cZ Y => ?_⟩
 have bx := Gr.grown bm X (fun k e => Nat.le_trans hB (ow_lt ho1 k e))
 have bz := bk_grownT bn ho1 X (by decide)
 have bA := bk_grownT bo ho1 X (by decide)
 have bB := Nat.le_trans bp X.size
 have bC := ow_grown bq ho1 X rfl
 have bD := gb_gb br X
 refine sw Y.ok (o_len Y.at_ Tryz.underlying73) (fun c0 Z => ?_)
 refine sw Z.ok (o_mv ev_const) (fun c1 M => ?_)
 refine wpList_nil (th_n (bu _ _ (wp_block ?_)))
 have hkn0 : KnW base bv (.agg #[.slice ka (formV D).length kb, .slice kc 0 kd]) (formV (addS D ((ddT a a.length).take 0))) (formM (addS D ((ddT a a.length).take 0))) := by rw [List.take_zero, addS_nil, hD.formM]; exact KnW.vec bC hN
 have bE := M.n (Z.n (Y.n (ag.n (af.n (V.n (ad.n (ah.n n2.at_)))))))
 have bF := M.n (Z.n (Y.n (ag.n (af.n (V.n (ad.n ah.at_))))))
 have bG := M.n (Z.n (Y.n (ag.n (af.n (V.n ad.at_)))))
 refine lp (fun (nL : Nat) (aL : Act) (wL : World) => ∃ i : Nat, ∃ ka : Option Addr, ∃ nV : Nat, ∃ kb : Nat, ∃ kc : Option Addr, ∃ nM : Nat, ∃ kd : Nat, nL = (ddT a a.length).length - i ∧ Ok 30 aL ∧ Gr w0 wL ∧ (aL.eval (.tmp 2) = .pointer (some ⟨K, 0, none⟩)) ∧ (aL.eval (.tmp 4) = .pointer (some ⟨U, 0, none⟩)) ∧ (aL.eval (.tmp 5) = .int .i64 0) ∧ (aL.eval (.tmp 12) = .slice da ((ddT a a.length).length) dc) ∧ (aL.eval (.tmp 13) = .int .i64 (((ddT a a.length).length : Nat) : Int)) ∧ (aL.eval (.tmp 14) = .int .i64 (i : Int)) ∧ (Bk wL K #[.slice ka nV kb, .slice kc nM kd] 75) ∧ (Bk wL U #[.slice none 0 0, .slice none 0 0] 75) ∧ (w.grownBy wL (Value.ownBlock (.slice ra L.length rc))) ∧ (KnW base wL (.agg #[.slice ka nV kb, .slice kc nM kd]) (formV (addS D ((ddT a a.length).take i))) (formM (addS D ((ddT a a.length).take i)))) ∧ (World.ownsRow wL base 51 2 (.slice da ((ddT a a.length).length) dc) ((ddT a a.length).length) ((flat (pairs (ddT a a.length))))) ∧ (base ≤ wL.heap.size) ∧ (i ≤ (ddT a a.length).length) ∧ ((formM (addS D ((ddT a a.length).take i))).length ≤ 60)) _ ⟨0, ka, (formV D).length, kb, kc, 0, kd, rfl, M.ok, bx, bE, bF, bG, (M.n (Z.n Y.at_)), (M.n Z.at_), M.at_, bz, bA, bD, hkn0, ho2, bB, by omega, by rw [List.take_zero, addS_nil, hD.formM]; exact Nat.zero_le _⟩ ?_
 rintro c2 c3 au ⟨i, ka, nV, kb, kc, nM, kd, hmI57, okI57, GI57, aH, aj, bH, aI, aJ, av, kb3I57, kb16I57, fgbI57, fknI57, odrI57, zbaseI57, hiI57, hEI57⟩ KI57 hKI57
 refine wp_seq_k (fun c4 bI => (wp_region_lit (sw okI57 (o_ltI av aJ) (fun c5 b => ?_))))
 refine wpList_nil (th_n (bI _ _ (wp_seq_k (fun c6 bJ => ?_))))
 by_cases aK : (i : Int) < (((ddT a a.length).length : Nat) : Int)
 ·refine wp_cond_true ((b.at_).trans (congrArg Value.bool (decide_eq_true aK))) ?_
  have aM := Gr.refl au
  refine wp_skip (th_n (bJ _ _ (wp_seq_k (fun c7 bK => (wp_block (wp_seq_k (fun c8 bL => (wp_region_lit ?_))))))))
  have ax : i < (ddT a a.length).length := by omega
  obtain ⟨bh72, fh72, bM, c9, bO⟩ := RdA.own encD_ok (by have h := odrI57; rw [flat_encD] at h; exact h) rfl (ne_nil_of_lt ax)
  obtain ⟨xh72, ay⟩ : ∃ x, (ddT a a.length)[i]? = some x := ⟨_, List.getElem?_eq_getElem ax⟩
  refine sw b.ok (o_iaV (i := i) (s := 2) bM (b.n aI) (b.n av) Tryz.underlying73 (by kernel_rfl) ax) (fun db F => ?_)
  refine sw F.ok (o_ldA (k := fh72 + i * 2) F.at_ (cs := [.int .i64 ((xh72.1 : Nat) : Int), .int .i64 ((xh72.2 : Nat) : Int)]) (fun j v hv => bO _ _ ay j v hv) Tryz.underlying51 rfl (by kernel_rfl)) (fun dd G => ?_)
  refine sal (cs := #[.int .i64 0, .int .i64 0]) G.ok rfl (wn _ rfl) rfl (o_al (z := .agg #[.int .i64 0, .int .i64 0]) (by kernel_rfl)) (fun df dg aa c l => ?_)
  have bS : K < aa := by rw [c.eq]; exact kb3I57.lt
  have bT : U < aa := by rw [c.eq]; exact kb16I57.lt
  have bU : w0.heap.size ≤ aa := by rw [c.eq]; exact GI57.size
  have bV : au.heap.size ≤ aa := by rw [c.eq]; exact aM.size
  have bW : ∀ k, Value.ownBlock (.slice da ((ddT a a.length).length) dc) = some k → k < aa := fun k e => by rw [c.eq]; exact ow_in odrI57 k e
  have bX : w.heap.size ≤ aa := by rw [c.eq]; exact fgbI57.size
  have bY := GI57.trans c.gr
  have bZ := kb3I57.gr c.gr
  have b0 := kb16I57.gr c.gr
  have b1 := aM.trans c.gr
  have b2 := Nat.le_trans zbaseI57 c.gr.size
  have b4 := ow_gr odrI57 c.gr
  have b5 := gb_gr fgbI57 c.gr
  refine ssR rfl (wn _ rfl) (o_stR l.at_ (l.n G.at_) c.bk (by kernel_rfl) rfl (by simp [Value.oneCell'])) c.bk (fun ak O b6 => ?_)
  have b7 : Gr w0 ak := Below.upd bY bU O
  have aO := bZ.upd O (Nat.ne_of_lt bS)
  have b8 := b0.upd O (Nat.ne_of_lt bT)
  have b9 : Gr au ak := Below.upd b1 bV O
  have aS : base ≤ ak.heap.size := by rw [O.size]; exact b2
  have ca := ow_upd_ne b4 O bW
  have cb := gb_upd b5 O bX
  refine wpList_nil (th_n (bL _ _ (wp_seq_k (fun dh cc => (wp_region_lit (sw l.ok (o_as ev_const) (fun di H => ?_)))))))
  refine wpList_nil (th_n (cc _ _ (wp_seq_k (fun dj cd => (wp_region_lit ?_)))))
  have aT := H.n (l.n (G.n (F.n (b.n aH))))
  refine sw H.ok (o_ldR aT aO Tryz.underlying75 rfl (by kernel_rfl)) (fun dk t => ?_)
  refine sw t.ok (o_ldR (t.n (H.n l.at_)) b6 Tryz.underlying51 rfl (by kernel_rfl)) (fun dl u => ?_)
  refine sc u.ok rfl (wn _ rfl) rfl (o_f2 Tryz.func186 rfl rfl rfl (u.n t.at_) u.at_) ((by have h := add_c (.agg #[.slice ka nV kb, .slice kc nM kd]) (addS D ((ddT a a.length).take i)) xh72 base ak aS ((fknI57).rd.gr b9) hEI57 (hMR _ (List.mem_of_getElem? ay)); rw [addS_step ay] at h; exact h)) ?_
  rintro _ dm ⟨ka2, nV2, kb2, kc2, nM2, kd2, rfl, hkn2, ab⟩
  refine ⟨_, rfl, fun dn I => ?_⟩
  have cf := b7.trans ab
  have al := aO.gr ab
  have cg := b8.gr ab
  have ch := Nat.le_trans aS ab.size
  have ci := ow_gr ca ab
  have cj := gb_gr cb ab
  refine sw I.ok (o_mv I.at_) (fun dp y => ?_)
  refine sw y.ok (o_ex y.at_ rfl) (fun dq A => ?_)
  refine sw A.ok (o_ex (A.n y.at_) rfl) (fun dr B => ?_)
  have aU := B.n (A.n (y.n (I.n (u.n (t.n aT)))))
  refine ssR rfl (wn _ rfl) (o_stR aU (B.n A.at_) al (by kernel_rfl) rfl (by simp [Value.oneCell'])) al (fun aV ac ck => ?_)
  have cl : Gr w0 aV := Below.upd cf l6 ac
  have az := cg.upd ac (Nat.ne_of_gt bb)
  have cm : base ≤ aV.heap.size := by rw [ac.size]; exact ch
  have cn := ow_updT ci ac al (by decide)
  have aW := gb_upd cj ac l9
  have co := KnW.tks hkn2 (tks_upd ac al (by decide))
  refine sw B.ok (o_as B.at_) (fun ds C => ?_)
  refine wpList_nil (th_n (cd _ _ (wp_seq_k (fun dt cp => (wp_region_lit (sw C.ok (o_mv C.at_) (fun du E => ?_)))))))
  refine sw E.ok (o_neI E.at_ ev_const) (fun dv g => ?_)
  refine wpList_nil (th_n (cp _ _ ?_))
  by_cases J : ¬ (frE (addS D ((ddT a a.length).take (i + 1)))) = 0
  ·refine wp_cond_true ((g.at_).trans (congrArg Value.bool (decide_eq_true J))) ?_
   refine wp_seq_k (fun dx cq => (wp_region_lit (sw g.ok (o_b0 (cs := #[.slice none 0 0, .slice none 0 0]) Tryz.underlying75 (by kernel_rfl) (by kernel_rfl)) (fun dy am => ?_))))
   have cr := am.n (g.n (E.n C.at_))
   refine sw am.ok (o_mv cr) (fun dz an => ?_)
   have aX := an.n (am.n (g.n (E.n (C.n (B.n (A.n (y.n (I.n (u.n (t.n (H.n (l.n (G.n (F.n (b.n aj)))))))))))))))
   refine ssR rfl (wn _ rfl) (o_stR aX (an.n am.at_) az (by kernel_rfl) rfl (by simp [Value.oneCell'])) az (fun dA ct cu => ?_)
   have cx := gb_upd aW ct aF
   refine sw an.ok (o_as an.at_) (fun dB aA => ?_)
   refine wpList_nil (th_n (cq _ _ (wp_ret (ib_r (th_r (th_r (ib_r (th_r (ret2 aA.ok rfl (⟨_, _, (aA.n aX), ld_row cu Tryz.underlying75 rfl (by kernel_rfl)⟩) (aA.at_) ⟨.agg #[.slice none 0 0, .slice none 0 0], by rw [hF, (fr_over J (addS_le hD hMs hMR ((ddT a a.length).length - (i + 1)) (i + 1) (by omega))).1, (fr_over J (addS_le hD hMs hMR ((ddT a a.length).length - (i + 1)) (i + 1) (by omega))).2.1] <;> rfl, by rw [hF, (fr_over J (addS_le hD hMs hMR ((ddT a a.length).length - (i + 1)) (i + 1) (by omega))).2.2.1, (fr_over J (addS_le hD hMs hMR ((ddT a a.length).length - (i + 1)) (i + 1) (by omega))).2.2.2]; exact KnW.vec (World.ownsRow_nil _ _ _ _) noM_nil, cx⟩)))))))))
  ·refine wp_cond_false ((g.at_).trans (congrArg Value.bool (decide_eq_false J))) ?_
   refine wp_skip (ib_n (th_n (bK _ _ (wp_region_lit ?_))))
   have cy := g.n (E.n (C.n (B.n (A.n (y.n (I.n (u.n (t.n (H.n (l.n (G.n (F.n (b.n av)))))))))))))
   refine sw g.ok (o_add (r := ((i + 1 : Nat) : Int)) cy ev_const (by omega) (by omega)) (fun dC S => ?_)
   refine sw S.ok (o_mv S.at_) (fun dD T => ?_)
   refine wpList_nil ?_
   have cz := T.n (S.n (g.n (E.n (C.n aU))))
   have cA := T.n (S.n (g.n (E.n (C.n (B.n (A.n (y.n (I.n (u.n (t.n (H.n (l.n (G.n (F.n (b.n aj)))))))))))))))
   have cB := T.n (S.n (g.n (E.n (C.n (B.n (A.n (y.n (I.n (u.n (t.n (H.n (l.n (G.n (F.n (b.n bH)))))))))))))))
   have cC := T.n (S.n (g.n (E.n (C.n (B.n (A.n (y.n (I.n (u.n (t.n (H.n (l.n (G.n (F.n (b.n aI)))))))))))))))
   have cD := T.n (S.n (g.n (E.n (C.n (B.n (A.n (y.n (I.n (u.n (t.n (H.n (l.n (G.n (F.n (b.n aJ)))))))))))))))
   exact th_n (hKI57 _ _ _ (by omega) ⟨i + 1, ka2, nV2, kb2, kc2, nM2, kd2, rfl, T.ok, cl, cz, cA, cB, cC, cD, T.at_, ck, az, aW, (by have h := co; rw [(fr_small (Decidable.of_not_not J)).1, (fr_small (Decidable.of_not_not J)).2] at h; exact h), cn, cm, by omega, frE_zero (Decidable.of_not_not J)⟩)
 ·refine wp_cond_false ((b.at_).trans (congrArg Value.bool (decide_eq_false aK))) ?_
  refine wp_exit (th_x (th_x (ib_x (th_n (bt _ _ (wp_seq_k (fun dE cE => (wp_region_lit (sw b.ok (o_ldR (b.n aH) kb3I57 Tryz.underlying75 rfl (by kernel_rfl)) (fun dF ao => ?_))))))))))
  refine ssR rfl (wn _ rfl) (o_stR (ao.n (b.n aj)) ao.at_ kb16I57 (by kernel_rfl) rfl (by simp [Value.oneCell'])) kb16I57 (fun dG aY cF => ?_)
  have cG := gb_upd fgbI57 aY aF
  have cH := KnW.tks fknI57 (tks_upd aY kb16I57 (by decide))
  refine sw ao.ok (o_as ev_const) (fun dH aB => ?_)
  refine wpList_nil (th_n (cE _ _ (wp_ret ?_)))
  have cI := aB.n (ao.n (b.n aj))
  exact ret2 aB.ok rfl (⟨_, _, cI, ld_row cF Tryz.underlying75 rfl (by kernel_rfl)⟩) (aB.at_) ⟨_, by rw [hF, (fr_of (by have h := hEI57; rw [List.take_of_length_le (by omega)] at h; exact h)).1], by have h := cH; have q := hEI57; rw [List.take_of_length_le (by omega)] at h q; rw [hF, (fr_of q).2.1, (fr_of q).2.2]; exact h, cG⟩
end Go.Proofs.YtglbnggkkjhokaaGreat
/- What is past of a thing, version by version; an operation of a row in a region that draws its order. -/
namespace Gx
open Go Go.RowKit Rm
section
variable {P : Program} {ops : Array Oper} {Q : Exit → Act → World → Prop} {N : Nat} {S : World → Prop}
def SxB (b : Nat) (cs : Array Value) (t : TypeId) (x : World) : Prop := Bk x b cs t
theorem h_startB {id : Nat} {a : Act} {w : World} (b : Nat) (cs : Array Value) (t : TypeId) (n : Nat) (L : Array Bool) (hf : P.follows .mixedOrders = true) (hn : ops.size = n) (hL : Array.replicate ops.size false = L)
  (h : wpAnyH P .any ops Q (SxB b cs t) n L a w.drew) : (Code.region id ops true).wp P Q a w := by
 subst hn hL
 exact wp_region_held hf h
theorem h_one {i : Nat} {o : Oper} {fuel : Nat} {L : Array Bool} {a : Act} {w : World} (hr : Region.ready .any ops L = [i]) (ho : ops[i]? = some o) (hw : Region.wanted o (yielded ops a.tmps) = true)
  (h : o.wp P a w (fun a' w' => S w' ∧ wpAnyH P .any ops Q S fuel (L.setIfInBounds i true) a' w') Q) : wpAnyH P .any ops Q S (fuel + 1) L a w := by
 refine wpAnyH_all hr (by simp) fun j hj => ?_
 obtain rfl : j = i := by simpa using hj
 unfold wpOp
 rw [ho]
 simp only [hw, if_true]
 exact .inl h
theorem h_val {i : Nat} {o : Oper} {fuel : Nat} {L : Array Bool} {a : Act} {w w' : World} {d : Nat} {v : Value} (hr : Region.ready .any ops L = [i]) (ho : ops[i]? = some o) (ok : Ok N a) (hd : o.dst = some d) (hw : Region.wanted o (yielded ops a.tmps) = true) (hN : Nat.blt d N = true)
  (hrun : (execOp a.eval o).run P w = .ok (.value v) w') (hS : S w') (h : ∀ a', Nx N a a' d v → wpAnyH P .any ops Q S fuel (L.setIfInBounds i true) a' w') : wpAnyH P .any ops Q S (fuel + 1) L a w := by
 refine h_one hr ho hw ?_
 unfold Oper.wp
 rw [hrun]
 show S w' ∧ wpAnyH P .any ops Q S fuel (L.setIfInBounds i true) (a.put o.dst v) w'
 rw [hd]
 exact ⟨hS, h _ (Nx.put ok hN v)⟩
theorem h_sals {i : Nat} {o : Oper} {fuel : Nat} {L : Array Bool} {a : Act} {w : World} {d n c : Nat} {cs : Array Value} {t : TypeId} (hr : Region.ready .any ops L = [i]) (ho : ops[i]? = some o) (ok : Ok N a) (hd : o.dst = some d) (hw : Region.wanted o (yielded ops a.tmps) = true) (hN : Nat.blt d N = true)
  (hrun : (execOp a.eval o).run P w = .ok (.value (.slice (some ⟨w.heap.size, 0, none⟩) n c)) (w.alloc (.cells cs t))) (hS : ∀ w', Gr w w' → S w')
  (h : ∀ a' w' b, New w w' b cs t → Nx N a a' d (.slice (some ⟨b, 0, none⟩) n c) → wpAnyH P .any ops Q S fuel (L.setIfInBounds i true) a' w') : wpAnyH P .any ops Q S (fuel + 1) L a w :=
 h_val hr ho ok hd hw hN hrun (hS _ (New.mk' w cs t).gr) fun a' n => h a' _ _ (New.mk' w cs t) n
theorem h_app {i fuel : Nat} {L : Array Bool} {a : Act} {w : World} {dd : Nat} {s x : Operand} {t ty : TypeId} {p : String} {af : Array Edge} {g : Option (Nat × Bool)} {base : Nat} {e : TypeId} {ti : TypeInfo} {z : Value} {size bytes : Nat}
  (hr : Region.ready .any ops L = [i]) (ho : ops[i]? = some (Oper.mk (some dd) (.call { callee := .builtin .append, args := #[s, x], argTypes := #[t, t] }) ty p af g)) (ok : Ok N a)
  (hw : Region.wanted (Oper.mk (some dd) (.call { callee := .builtin .append, args := #[s, x], argTypes := #[t, t] }) ty p af g) (yielded ops a.tmps) = true) (hN : Nat.blt dd N = true)
  (ht : P.underlying t = some (.slice e)) (hi : P.info? e = some ti) (hz : ti.zero = some z) (hsize : ti.size = size) (hby : ti.bytes = bytes) (hzs : z.cells.size = size) (hsz : 0 < size)
  {v : Value} {n : Nat} {xs : List Value} (hs : a.eval s = v) (hown : w.ownsRow base e size v n xs)
  {ad : Addr} {m c : Nat} {news : List Value} (hx : a.eval x = .slice (some ad) m c) (hl : news.length = m * size) (hnews : ∀ j u, news[j]? = some u → w.cell? (ad.add j) = some u) (h1 : ∀ u ∈ news, u.oneCell' = true)
  (h63 : n + m ≤ maxLen) (hbytes : (n + m) * bytes ≤ 140737488355328) (hbase : base ≤ w.heap.size) (hS : ∀ w', w.grownBy w' v.ownBlock → S w')
  (h : ∀ a' w' v', w'.ownsRow base e size v' (n + m) (xs ++ news) → w.grownBy w' v.ownBlock → Nx N a a' dd v' → wpAnyH P .any ops Q S fuel (L.setIfInBounds i true) a' w') : wpAnyH P .any ops Q S (fuel + 1) L a w := by
 refine h_one hr ho hw ?_
 exact wp_append_own w s x t rfl base e ti z size bytes ht hi hz hsize hby hzs hsz v n xs hs hown ad m c news hx hl hnews h1 h63 hbytes hbase fun v' w' h2 h3 _ => ⟨hS _ h3, h _ w' v' h2 h3 (Nx.put ok hN v')⟩
theorem h_appR {i fuel : Nat} {L : Array Bool} {a : Act} {w : World} {dd : Nat} {s x : Operand} {t ty : TypeId} {p : String} {af : Array Edge} {g : Option (Nat × Bool)} {base : Nat} {e : TypeId} {ti : TypeInfo} {z : Value} {size bytes : Nat}
    (hr : Region.ready .any ops L = [i]) (ho : ops[i]? = some (Oper.mk (some dd) (.call { callee := .builtin .append, args := #[s, x], argTypes := #[t, t] }) ty p af g)) (ok : Ok N a)
    (hw : Region.wanted (Oper.mk (some dd) (.call { callee := .builtin .append, args := #[s, x], argTypes := #[t, t] }) ty p af g) (yielded ops a.tmps) = true) (hg : g = none) (hN : Nat.blt dd N = true)
    (ht : P.underlying t = some (.slice e)) (hi : P.info? e = some ti) (hz : ti.zero = some z) (hsize : ti.size = size) (hby : ti.bytes = bytes) (hzs : z.cells.size = size) (hsz : 0 < size)
    {v : Value} {n : Nat} {xs : List Value} (hs : a.eval s = v) (hown : w.ownsRow base e size v n xs)
    {u : Value} {m : Nat} {news : List Value} (hx : a.eval x = u) (hn : RdC size w u m news)
    (h63 : n + m ≤ maxLen) (hbytes : (n + m) * bytes ≤ 140737488355328) (hbase : base ≤ w.heap.size) (hS0 : S w) (hS : ∀ w', w.grownBy w' v.ownBlock → S w')
    (h : ∀ a' w' v', w'.ownsRow base e size v' (n + m) (xs ++ news) → w.grownBy w' v.ownBlock → Nx N a a' dd v' → wpAnyH P .any ops Q S fuel (L.setIfInBounds i true) a' w') : wpAnyH P .any ops Q S (fuel + 1) L a w := by
  obtain ⟨hl, h1, ⟨rfl, rfl⟩ | ⟨ad, c, rfl, hc, hb, hnews⟩⟩ := hn
  · obtain rfl : news = [] := List.eq_nil_of_length_eq_zero (by simpa using hl)
    refine wpAnyH_all hr (by simp) fun j hj => ?_
    obtain rfl : j = i := by simpa using hj
    unfold wpOp
    rw [ho]
    simp only [hw, if_true]
    refine .inl ?_
    have hrun := run_append_owned_none (P := P) (w := w) base t ty e ti size ht hi v n xs hown
    unfold Oper.wp
    simp [execOp, resolve, invoke, builtin, hs, hx, hrun, Result.andThen]
    refine ⟨hS0, ?_⟩
    exact h _ w v (by simpa using hown) (gb_self) (Nx.put ok hN v)
  · exact h_app hr ho ok hw hN ht hi hz hsize hby hzs hsz hs hown hx hl hnews h1 h63 hbytes hbase hS h
end
end Gx
namespace Rm
open Go Go.RowKit Gx
def vD (x : VerD) : DS := memB (x.V.map Int.toNat) []
def ndI (x : VerD) : List (Int × Int) := (x.s, x.c) :: x.M
def pF (L : List VerD) (id : List UInt8) : List VerD := L.filter fun x => decide (x.id = id)
def pV (L : List VerD) (id : List UInt8) : DS := fun s c => (pF L id).any fun x => vD x s c
def pI (L : List VerD) (id : List UInt8) : List (Int × Int) := (pF L id).flatMap ndI
def toN (l : List (Int × Int)) : List (Nat × Nat) := l.map fun d => (d.1.toNat, d.2.toNat)
def pD (L : List VerD) (id : List UInt8) : DS := addS (pV L id) (toN (pI L id))
theorem pF_step {L : List VerD} {i : Nat} {x : VerD} {id : List UInt8} (h : L[i]? = some x) (hid : x.id = id) : pF (L.take (i + 1)) id = pF (L.take i) id ++ [x] := by
 unfold pF
 rw [List.take_add_one, h, List.filter_append]
 simp [hid]
theorem pF_skip {L : List VerD} {i : Nat} {x : VerD} {id : List UInt8} (h : L[i]? = some x) (hid : ¬ x.id = id) : pF (L.take (i + 1)) id = pF (L.take i) id := by
 unfold pF
 rw [List.take_add_one, h, List.filter_append]
 simp [hid]
theorem pV_step {L : List VerD} {i : Nat} {x : VerD} {id : List UInt8} (h : L[i]? = some x) (hid : x.id = id) : pV (L.take (i + 1)) id = orD (pV (L.take i) id) (vD x) := by
 funext s c
 unfold pV orD
 rw [pF_step h hid, List.any_append]
 simp
theorem pV_skip {L : List VerD} {i : Nat} {x : VerD} {id : List UInt8} (h : L[i]? = some x) (hid : ¬ x.id = id) : pV (L.take (i + 1)) id = pV (L.take i) id := by
 unfold pV
 rw [pF_skip h hid]
theorem pI_step {L : List VerD} {i : Nat} {x : VerD} {id : List UInt8} (h : L[i]? = some x) (hid : x.id = id) : pI (L.take (i + 1)) id = pI (L.take i) id ++ ndI x := by
 unfold pI
 rw [pF_step h hid, List.flatMap_append]
 simp
theorem pI_skip {L : List VerD} {i : Nat} {x : VerD} {id : List UInt8} (h : L[i]? = some x) (hid : ¬ x.id = id) : pI (L.take (i + 1)) id = pI (L.take i) id := by
 unfold pI
 rw [pF_skip h hid]
theorem pV_pure (L : List VerD) (id : List UInt8) : Pure (pV L id) := pure_of fun s c hi hc hd => by
 unfold pV at hd ⊢
 rw [List.any_eq_true] at hd ⊢
 obtain ⟨x, hx, h⟩ := hd
 exact ⟨x, hx, (pure_vec _).down hi hc h⟩
theorem pV_nil (L : List VerD) (id : List UInt8) : formV (pV (L.take 0) id) = [] := by
 have ok0 : OkV [] [] := ⟨by simp, by simp, by simp, by simp, by simp⟩
 refine (ok0.form (D := pV (L.take 0) id) fun s c i => ?_).1
 rw [List.take_zero]
 have : ¬ ((1 ≤ c ∧ c ≤ cv [] s) ∨ (s, c) ∈ ([] : List (Nat × Nat))) := by
  rintro (h | h)
  ·simp [cv] at h; omega
  ·cases h
 rw [← memB_iff, Bool.not_eq_true] at this
 rw [this]
 rfl
theorem pairs_toN {l : List (Int × Int)} (h : ∀ d ∈ l, dotB d = true) : pairs (toN l) = l := by
 unfold pairs toN
 rw [List.map_map]
 conv => rhs; rw [← List.map_id l]
 refine List.map_congr_left fun d hd => ?_
 obtain ⟨h1, h2, h3, h4⟩ := (dotB_iff _).1 (h d hd)
 simp only [Function.comp, id]
 rw [Int.toNat_of_nonneg h1, Int.toNat_of_nonneg (by omega)]
theorem toN_in {l : List (Int × Int)} (h : ∀ d ∈ l, dotB d = true) : ∀ d ∈ toN l, inR d.1 d.2 := fun d hd => by
 unfold toN at hd
 obtain ⟨e, he, rfl⟩ := List.mem_map.1 hd
 obtain ⟨h1, h2, h3, h4⟩ := (dotB_iff _).1 (h e he)
 exact ⟨by simp only; omega, by simp only; omega, by simp only; omega⟩
theorem chk_dots {V : List Int} {M : List (Int × Int)} (h : chkK V M = 0) : M.length ≤ 60 ∧ ∀ d ∈ M, dotB d = true := by
 obtain ⟨v, m, rfl, rfl, ok, hl⟩ := chkK_zero h
 refine ⟨by rw [pairs_len]; exact hl, fun d hd => ?_⟩
 unfold pairs at hd
 obtain ⟨e, he, rfl⟩ := List.mem_map.1 hd
 obtain ⟨h1, h2, h3⟩ := ok.dots e he
 rw [dotB_iff]
 refine ⟨by simp only; omega, by simp only; omega, by simp only; omega, by simp only; omega⟩
theorem nd_in {x : VerD} (h : chkOne x = 0) : (ndI x).length ≤ 61 ∧ ∀ d ∈ ndI x, dotB d = true := by
 obtain ⟨-, h2, h3, -⟩ := chkOne_zero h
 obtain ⟨h4, h5⟩ := chk_dots h3
 refine ⟨by unfold ndI; rw [List.length_cons]; omega, fun d hd => ?_⟩
 rcases List.mem_cons.1 hd with rfl | hd
 ·exact argB_dot h2
 ·exact h5 d hd
theorem pI_in {L : List VerD} (id : List UInt8) (h : ∀ x ∈ L, chkOne x = 0) : ∀ d ∈ pI L id, dotB d = true := fun d hd => by
 unfold pI at hd
 obtain ⟨x, hx, h1⟩ := List.mem_flatMap.1 hd
 exact (nd_in (h x (List.mem_filter.1 hx).1)).2 d h1
theorem flatMap_len {α β : Type} {f : α → List β} {n : Nat} : ∀ l : List α, (∀ x ∈ l, (f x).length ≤ n) → (l.flatMap f).length ≤ n * l.length
 | [], _ => by simp
 | a :: l, h => by
  have ih := flatMap_len l fun x hx => h x (List.mem_cons_of_mem _ hx)
  have h1 := h a (List.mem_cons_self ..)
  rw [List.flatMap_cons, List.length_append, List.length_cons, Nat.mul_add]
  omega
theorem pI_len {L : List VerD} (id : List UInt8) (h : ∀ x ∈ L, chkOne x = 0) : (pI L id).length ≤ 61 * L.length := by
 unfold pI
 refine Nat.le_trans (flatMap_len _ fun x hx => (nd_in (h x (List.mem_filter.1 hx).1)).1) (Nat.mul_le_mul_left _ ?_)
 exact List.length_filter_le _ _
end Rm
namespace Go.Proofs.YtglbnggkkjhokaaGreat
open Go.RowKit Rm Gx
theorem knR_vecN {w : World} {base n c : Nat} {a : Option Addr} {mv : Value} {v : List Nat} (h : w.ownsRow base 3 1 (.slice a n c) n (flatI v)) (hm : NoM mv) : KnR w (.agg #[.slice a n c, mv]) (ints v) [] := by
 have hn : n = v.length := by
  have := h.1
  unfold flatI at this
  rw [List.length_map] at this
  omega
 subst hn
 exact knR_vecM h hm
theorem noM_rd {w : World} {vv : Value} {V : List Int} {M : List (Int × Int)} {mv : Value} (h : KnR w (.agg #[vv, mv]) V M) : KnR w (.agg #[vv, .slice none 0 0]) V [] := by
 obtain ⟨a, b, e, h1, -, -⟩ := h
 have e1 : vv = a := by
  injection e with e
  have e := congrArg Array.toList e
  exact (List.cons.inj e).1
 subst e1
 exact ⟨_, _, rfl, h1, (noM_nil w).1, (noM_nil w).2⟩
theorem join_v (k k' : Value) (D E : DS) (V' : List Int) (M' : List (Int × Int)) (base : Nat) (w : World) (hb : base ≤ w.heap.size) (hD : Pure D) (hE : chkK V' M' = 0) (hEE : E = memB (V'.map Int.toNat) []) (hk : KnR w k (ints (formV D)) []) (hk' : KnR w k' V' []) :
    Calls Tryz.prog 127 #[k, k'] w fun e w' => ∃ va n vc ma mc, e = .returned (.tuple #[.agg #[.slice va n vc, .slice ma 0 mc], .int .i64 0]) ∧ w'.ownsRow base 3 1 (.slice va n vc) n (flatI (formV (orD D E))) ∧ NoM (.slice ma 0 mc) ∧ Gr w w' := by
  obtain ⟨v, m, rfl, rfl, ok, hl⟩ := chkK_zero hE
  have ev : (ints v).map Int.toNat = v := by
    unfold ints
    rw [List.map_map]
    conv => rhs; rw [← List.map_id v]
    exact List.map_congr_left fun x _ => by simp
  rw [ev] at hEE
  subst hEE
  have okD : OkV (formV D) [] := by have h := form_ok D; rw [hD.formM] at h; exact h
  have okE : OkV v [] := ⟨ok.len, ok.le, ok.last, (fun d hd => by cases hd), List.Pairwise.nil⟩
  refine (join_ok k k' (formV D) v [] [] w hk hk' okD okE (by simp) (by simp)).mono ?_
  rintro e w' ⟨h, g⟩
  have hp : Pure (orD D (memB v [])) := hD.or (pure_vec v)
  have he : EqD (orD (memB (formV D) []) (memB v [])) (orD D (memB v [])) := fun s c i => by
    have := form_mem D s c i
    rw [hD.formM] at this
    unfold orD
    rw [this]
  obtain ⟨k2, h1, h2⟩ := (h.congr he).one
  obtain ⟨f1, f2, f3⟩ := fr_of (D := orD D (memB v [])) (by rw [hp.formM]; exact Nat.zero_le _)
  rw [f1] at h1
  rw [f2, f3, hp.formM] at h2
  have h5 := h2.rd
  obtain ⟨vv, mv, rfl, h3, h4⟩ := h2.less hb
  obtain ⟨a, c, rfl, -⟩ := ow_form h3
  obtain ⟨a', c', rfl, -⟩ := ow_form h4
  exact ⟨a, _, c, a', c', h1, h3, noM_of h5, g⟩
theorem addAll_n (D : DS) (I : List (Int × Int)) (nV nD : Nat) (ka kc ra : Option Addr) (kb kd rc base : Nat) (hD : Pure D) (hI : ∀ d ∈ I, dotB d = true) (hl : I.length ≤ 10000) (hN : NoM (.slice kc 0 kd)) (w0 w : World) (hG : Gr w0 w) (hB : w0.heap.size ≤ base) (hz : base ≤ w.heap.size) (ho : w.ownsRow base 51 2 (.slice ra nD rc) nD (flat I)) (hv : w.ownsRow base 3 1 (.slice ka nV kb) nV (flatI (formV D))) :
  Calls Tryz.prog 134 #[.agg #[.slice ka nV kb, .slice kc 0 kd], .slice ra nD rc] w fun e w' => ∃ k, e = .returned (.tuple #[k, .int .i64 (frE (addS D (toN I)))]) ∧ KnW base w' k (frV (addS D (toN I))) (frM (addS D (toN I))) ∧ w.grownBy w' (Value.ownBlock (.slice ra nD rc)) := by
 have hn : nV = (formV D).length := by
  have := hv.1
  unfold flatI at this
  rw [List.length_map] at this
  omega
 have hd : nD = (toN I).length := by
  have h1 := ho.1
  have h2 : (flat I).length = I.length * 2 := by rw [flat_len]
  unfold toN
  rw [List.length_map]
  omega
 rw [hn, hd]
 rw [hn] at hv
 rw [hd] at ho
 have ho2 : w.ownsRow base 51 2 (.slice ra (toN I).length rc) (toN I).length (flat (pairs (toN I))) := by rw [pairs_toN hI]; exact ho
 exact addAll_any D (toN I) ka kc ra kb kd rc base hD (toN_in hI) (by unfold toN; rw [List.length_map]; exact hl) hN w0 w hG hB hz ho2 hv
end Go.Proofs.YtglbnggkkjhokaaGreat
/- shelf.Past. -/
namespace Go.Proofs.YtglbnggkkjhokaaGreat
open Go.RowKit Rm Gx
theorem rdc_M {w : World} {x : VerI} (h : MeanV w x) : RdC 2 w (.slice x.ma x.d.M.length x.mc) x.d.M.length (flat x.d.M) := by
 obtain ⟨a, b, e, -, -, h3⟩ := h
 have e1 : (Value.slice x.ma x.d.M.length x.mc) = b := by
  unfold VerI.k at e
  injection e with e
  have e := congrArg Array.toList e
  exact (List.cons.inj (List.cons.inj e).2).1
 rw [e1]
 exact h3
theorem knR_form {w : World} {k : Value} {V : List Int} {M : List (Int × Int)} (h : KnR w k V M) : ∃ a n c a' m c', k = .agg #[.slice a n c, .slice a' m c'] := by
 obtain ⟨vv, mv, rfl, ⟨a, c, rfl, -⟩, ⟨a', c', rfl, -⟩, -⟩ := h
 exact ⟨_, _, _, _, _, _, rfl⟩
theorem past_w (K : List VerI) (va : Option Addr) (vc : Nat) (l : List UInt8) (hE : chkShf (K.map VerI.d) = 0) (w : World) (hv : RdA encVr 8 w va K) (hm : MeansV w K) :
  Calls Tryz.prog 78 #[.slice va K.length vc, .string (bs l)] w fun e w' => ∃ k bs, e = .returned (.tuple #[k, .int .i64 (frE (pD (K.map VerI.d) l))]) ∧ KnW bs w' k (frV (pD (K.map VerI.d) l)) (frM (pD (K.map VerI.d) l)) ∧ Gr w w' := by
 have hO := (okS_iff _).1 hE
 have hok := hO.one
 have hl60 : K.length ≤ 60 := by have := hO.len; simpa using this
 refine enter (N := 51) Tryz.func78 rfl rfl rfl (fun a0 ok0 h0 => ?_)
 have bx : a0.eval (.tmp 0) = .slice va K.length vc := h0 0 _ rfl
 have b2 : a0.eval (.tmp 1) = .string (bs l) := h0 1 _ rfl
 clear h0
 have G0 := Gr.refl w
 refine wp_seq_k (fun K1 b4 => (wp_region_lit (sal (cs := #[.slice none 0 0, .slice none 0 0]) ok0 rfl (wn _ rfl) rfl (o_al (z := .agg #[.slice none 0 0, .slice none 0 0]) (by kernel_rfl)) (fun d8 w4 b3 W5 n2 => ?_))))
 have l6 : w.heap.size ≤ b3 := by rw [W5.eq]; exact G0.size
 have G7 := G0.trans W5.gr
 refine sw n2.ok (o_as ev_const) (fun d9 n8 => ?_)
 refine wpList_nil (th_n (b4 _ _ (wp_seq_k (fun K9 b7 => (wp_seq_k (fun fb b8 => (wp_region_lit (sw n8.ok (o_mv (n8.n (n2.n bx))) (fun fc aA => ?_)))))))))
 refine sc aA.ok rfl (wn _ rfl) rfl (o_f1 Tryz.func133 rfl rfl rfl aA.at_) ((vchk_any K va vc w4 (hv.gr G7) (hm.gr G7)).mono fun e w' h => (by rw [hE] at h; exact h)) ?_
 rintro _ ff ⟨rfl, bA⟩
 refine ⟨_, rfl, fun fg aB => ?_⟩
 have bB := G7.trans bA
 have bC := W5.bk.gr bA
 refine sw aB.ok (o_as aB.at_) (fun fh aC => ?_)
 refine wpList_nil (th_n (b8 _ _ (wp_seq_k (fun fi b9 => (wp_region_lit (sw aC.ok (o_mv aC.at_) (fun fj aD => ?_)))))))
 refine sw aD.ok (o_neq (b := false) aD.at_ ev_const (by decide)) (fun fk aE => ?_)
 refine wpList_nil (th_n (b9 _ _ (wp_cond_false (aE.at_) ?_)))
 refine wp_skip (th_n (b7 _ _ (wp_seq_k (fun fl ca => (wp_region_lit (sal (cs := #[.slice none 0 0, .slice none 0 0]) aE.ok rfl (wn _ rfl) rfl (o_al (z := .agg #[.slice none 0 0, .slice none 0 0]) (by kernel_rfl)) (fun fm aT aF aG aH => ?_)))))))
 have cb : b3 < aF := by rw [aG.eq]; exact bC.lt
 have cc : w.heap.size ≤ aF := by rw [aG.eq]; exact bB.size
 have bD := bB.trans aG.gr
 have bE := bC.gr aG.gr
 refine wpList_nil (th_n (ca _ _ (wp_seq_k (fun fn cd => (wp_region_lit (sw aH.ok (o_as ev_const) (fun fo av => ?_)))))))
 refine wpList_nil (th_n (cd _ _ (wp_seq_k (fun fp cf => (wp_seq_k (fun fq cg => (wp_region_lit ?_)))))))
 have ch := av.n (aH.n (aE.n (aD.n (aC.n (aB.n (aA.n (n8.n (n2.n bx))))))))
 refine sw av.ok (o_mv ch) (fun fr ao => ?_)
 refine sw ao.ok (o_len ao.at_ Tryz.underlying41) (fun ft ap => ?_)
 refine sw ap.ok (o_mv ev_const) (fun fu ag => ?_)
 refine wpList_nil (th_n (cg _ _ (wp_block ?_)))
 obtain ⟨base, aU⟩ : ∃ n, n = aT.heap.size := ⟨_, rfl⟩
 have a9 : b3 < base := by rw [aU]; exact bE.lt
 have aV : aF < base := by rw [aU]; exact aG.bk.lt
 have aW : w.heap.size ≤ base := by rw [aU]; exact bD.size
 have ci : base ≤ aT.heap.size := Nat.le_of_eq aU
 have cj := World.ownsRow_nil aT base 51 2
 have ck := World.ownsRow_nil aT base 3 1
 have cl := ag.n (ap.n (ao.n (av.n (aH.n (aE.n (aD.n (aC.n (aB.n (aA.n (n8.n (n2.n b2)))))))))))
 have cm := ag.n (ap.n (ao.n (av.n (aH.n (aE.n (aD.n (aC.n (aB.n (aA.n (n8.n n2.at_))))))))))
 have cn := ag.n (ap.n (ao.n (av.n (aH.n (aE.n (aD.n (aC.n (aB.n (aA.n n8.at_)))))))))
 have co := ag.n (ap.n (ao.n (av.n aH.at_)))
 have cp := ag.n (ap.n (ao.n av.at_))
 refine lp (fun (nL : Nat) (aL : Act) (wL : World) => ∃ i : Nat, ∃ ka : Option Addr, ∃ nV : Nat, ∃ kb : Nat, ∃ kc : Option Addr, ∃ kd : Nat, ∃ ra : Option Addr, ∃ nD : Nat, ∃ rc : Nat, nL = K.length - i ∧ Ok 51 aL ∧ Gr w wL ∧ (aL.eval (.tmp 1) = .string (bs l)) ∧ (aL.eval (.tmp 4) = .pointer (some ⟨b3, 0, none⟩)) ∧ (aL.eval (.tmp 5) = .int .i64 0) ∧ (aL.eval (.tmp 7) = .pointer (some ⟨aF, 0, none⟩)) ∧ (aL.eval (.tmp 8) = .slice ra nD rc) ∧ (aL.eval (.tmp 17) = .slice va K.length vc) ∧ (aL.eval (.tmp 18) = .int .i64 ((K.length : Nat) : Int)) ∧ (aL.eval (.tmp 19) = .int .i64 (i : Int)) ∧ (Bk wL b3 #[.slice none 0 0, .slice none 0 0] 75) ∧ (Bk wL aF #[.slice ka nV kb, .slice kc 0 kd] 75) ∧ (World.ownsRow wL base 51 2 (.slice ra nD rc) (nD) ((flat (pI (List.take i (K.map VerI.d)) l)))) ∧ (World.ownsRow wL base 3 1 (.slice ka nV kb) (nV) ((flatI (formV (pV (List.take i (K.map VerI.d)) l))))) ∧ (base ≤ wL.heap.size) ∧ (i ≤ K.length) ∧ (NoM (.slice kc 0 kd))) _ ⟨0, none, 0, 0, none, 0, none, 0, 0, rfl, ag.ok, bD, cl, cm, cn, co, cp, (ag.n (ap.n ao.at_)), (ag.n ap.at_), ag.at_, bE, aG.bk, cj, (by rw [pV_nil]; exact ck), ci, by omega, noM_nil⟩ ?_
 rintro fv fx cq ⟨i, ka, nV, kb, kc, kd, ra, nD, rc, hmI45, okI45, GI45, cr, ba, bF, bb, bc, bd, bf, aX, kb3I45, kb23I45, odrI45, okvI45, zbaseI45, hiI45, hNI45⟩ KI45 hKI45
 have hlnI45 : nD ≤ 61 * i := by
  have h1 := (odrI45).1
  have h2 := pI_len l (L := (List.take i (K.map VerI.d))) (fun x hx => hok x (List.mem_of_mem_take hx))
  rw [flat_len] at h1
  rw [List.length_take] at h2
  have h3 : 61 * min i (K.map VerI.d).length ≤ 61 * i := Nat.mul_le_mul_left _ (Nat.min_le_left _ _)
  omega
 refine wp_seq_k (fun fy cx => (wp_region_lit (sw okI45 (o_ltI aX bf) (fun fz a => ?_))))
 refine wpList_nil (th_n (cx _ _ (wp_seq_k (fun fA cy => ?_))))
 by_cases bG : (i : Int) < ((K.length : Nat) : Int)
 ·refine wp_cond_true ((a.at_).trans (congrArg Value.bool (decide_eq_true bG))) ?_
  refine wp_skip (th_n (cy _ _ (wp_seq_k (fun fB bH => (wp_block (wp_seq_k (fun fC cz => (wp_region_lit ?_))))))))
  have bh : i < List.length K := by omega
  obtain ⟨bh60, fh60, cA, cB, cC⟩ := hv (ne_nil_of_lt bh)
  obtain ⟨xh60, ah⟩ : ∃ x, (K)[i]? = some x := ⟨_, List.getElem?_eq_getElem bh⟩
  refine sw a.ok (o_iaV (i := i) (s := 8) cA (a.n bd) (a.n aX) Tryz.underlying41 (by kernel_rfl) bh) (fun fD C => ?_)
  refine sw C.ok (o_ldA (k := fh60 + i * 8) C.at_ (cs := [.string (bs xh60.d.id), .int .i64 (xh60.d.s), .int .i64 (xh60.d.c), .int .i64 (xh60.d.t), .int .i64 (xh60.d.n), .int .i64 (xh60.d.b), .slice xh60.va xh60.d.V.length xh60.vc, .slice xh60.ma xh60.d.M.length xh60.mc]) (fun j v hv => (Below.cell GI45 cB).trans (cC _ _ ah j v hv)) Tryz.underlying106 rfl (by kernel_rfl)) (fun fE D => ?_)
  refine sal (cs := #[.string (bs []), .int .i64 0, .int .i64 0, .int .i64 0, .int .i64 0, .int .i64 0, .slice none 0 0, .slice none 0 0]) D.ok rfl (wn _ rfl) rfl (o_al (z := .agg #[.string (bs []), .int .i64 0, .int .i64 0, .int .i64 0, .int .i64 0, .int .i64 0, .slice none 0 0, .slice none 0 0]) (by kernel_rfl)) (fun fF fG y E o => ?_)
  have cD : b3 < y := by rw [E.eq]; exact kb3I45.lt
  have bI : aF < y := by rw [E.eq]; exact kb23I45.lt
  have cE : w.heap.size ≤ y := by rw [E.eq]; exact GI45.size
  have bJ : ∀ k, Value.ownBlock (.slice ra nD rc) = some k → k < y := fun k e => by rw [E.eq]; exact ow_in odrI45 k e
  have cF : ∀ k, Value.ownBlock (.slice ka nV kb) = some k → k < y := fun k e => by rw [E.eq]; exact ow_in okvI45 k e
  have cG := GI45.trans E.gr
  have cH := kb3I45.gr E.gr
  have cI := kb23I45.gr E.gr
  have cJ := Nat.le_trans zbaseI45 E.gr.size
  have cK := ow_gr odrI45 E.gr
  have cL := ow_gr okvI45 E.gr
  refine ssR rfl (wn _ rfl) (o_stR o.at_ (o.n D.at_) E.bk (by kernel_rfl) rfl (by simp [Value.oneCell'])) E.bk (fun bi aI bj => ?_)
  have bl : Gr w bi := Below.upd cG cE aI
  have bK := cH.upd aI (Nat.ne_of_lt cD)
  have bm := cI.upd aI (Nat.ne_of_lt bI)
  have bn : base ≤ bi.heap.size := by rw [aI.size]; exact cJ
  have bL := ow_upd_ne cK aI bJ
  have bM := ow_upd_ne cL aI cF
  refine wpList_nil (th_n (cz _ _ (wp_seq_k (fun fH cM => (wp_region_lit (sw o.ok (o_fa (z := 1) o.at_ Tryz.underlying106 rfl (by kernel_rfl) rfl rfl) (fun fI A => ?_)))))))
  refine sw A.ok (o_ld A.at_ (Tryz.isAgg9 _) (bj.cell _ rfl)) (fun fJ B => ?_)
  have bo := B.n (A.n (o.n (D.n (C.n (a.n cr)))))
  refine sw B.ok (o_mv bo) (fun fK q => ?_)
  refine sw q.ok (o_eqS (q.n B.at_) q.at_) (fun fL g => ?_)
  refine wpList_nil (th_n (cM _ _ ?_))
  by_cases aJ : xh60.d.id = l
  ·refine wp_cond_true ((g.at_).trans (congrArg Value.bool (decide_eq_true aJ))) ?_
   refine wp_seq_k (fun fM cO => (wp_region_lit ?_))
   have bO := g.n (q.n (B.n (A.n (o.n (D.n (C.n (a.n bb)))))))
   refine sw g.ok (o_ldR bO bm Tryz.underlying75 rfl (by kernel_rfl)) (fun fO W => ?_)
   have bp := W.n (g.n (q.n (B.n (A.n o.at_))))
   refine sw W.ok (o_fa (z := 2) bp Tryz.underlying106 rfl (by kernel_rfl) rfl rfl) (fun fS F => ?_)
   refine sw F.ok (o_fa (z := 1) F.at_ Tryz.underlying75 rfl (by kernel_rfl) rfl rfl) (fun fT G => ?_)
   refine sw G.ok (o_ld G.at_ (Tryz.isAgg45 _) (bj.cell _ rfl)) (fun fU H => ?_)
   refine sw H.ok (o_bd (cells := #[.slice xh60.va xh60.d.V.length xh60.vc, .slice none 0 0]) (vs := [(0, .slice xh60.va xh60.d.V.length xh60.vc)]) (by simp [H.at_, ev_const]) (by kernel_rfl)) (fun fV I => ?_)
   have hMh60 : xh60.d.M.length ≤ 60 := (chk_dots (chkOne_zero (hok _ (List.mem_map_of_mem (List.mem_of_getElem? ah)))).2.2.1).1
   have cS := I.n (H.n (G.n (F.n W.at_)))
   refine sc I.ok rfl (wn _ rfl) rfl (o_f2 Tryz.func127 rfl rfl rfl cS I.at_) ((by have h := join_v (.agg #[.slice ka nV kb, .slice kc 0 kd]) (.agg #[.slice xh60.va xh60.d.V.length xh60.vc, .slice none 0 0]) (pV (List.take i (K.map VerI.d)) l) (vD xh60.d) xh60.d.V xh60.d.M base bi bn (pV_pure _ _) (chkOne_zero (hok _ (List.mem_map_of_mem (List.mem_of_getElem? ah)))).2.2.1 rfl (knR_vecN bM hNI45) (noM_rd ((hm _ (List.mem_of_getElem? ah)).gr bl)); rw [← pV_step (map_at ah) aJ] at h; exact h)) ?_
   rintro _ fW ⟨ka2, nV2, kb2, kc2, kd2, rfl, hkv2, hN2, aK⟩
   refine ⟨_, rfl, fun fX T => ?_⟩
   have cT := bl.trans aK
   have cU := bK.gr aK
   have bS := bm.gr aK
   have cV := bj.gr aK
   have cW := Nat.le_trans bn aK.size
   have cX := ow_gr bL aK
   refine sw T.ok (o_mv T.at_) (fun fY J => ?_)
   refine sw J.ok (o_ex J.at_ rfl) (fun fZ O => ?_)
   refine sw O.ok (o_ex (O.n J.at_) rfl) (fun f0 U => ?_)
   have bT := U.n (O.n (J.n (T.n (I.n (H.n (G.n (F.n (W.n bO))))))))
   refine ssR rfl (wn _ rfl) (o_stR bT (U.n O.at_) bS (by kernel_rfl) rfl (by simp [Value.oneCell'])) bS (fun aY aM cY => ?_)
   have cZ : Gr w aY := Below.upd cT cc aM
   have c0 := cU.upd aM (Nat.ne_of_lt cb)
   have c1 := cV.upd aM (Nat.ne_of_gt bI)
   have c2 : base ≤ aY.heap.size := by rw [aM.size]; exact cW
   have c3 := ow_upd cX aM aV
   have c4 := ow_upd hkv2 aM aV
   refine wpList_nil (th_n (cO _ _ (h_startB y #[.string (bs xh60.d.id), .int .i64 (xh60.d.s), .int .i64 (xh60.d.c), .int .i64 (xh60.d.t), .int .i64 (xh60.d.n), .int .i64 (xh60.d.b), .slice xh60.va xh60.d.V.length xh60.vc, .slice xh60.ma xh60.d.M.length xh60.mc] 106 10 #[false, false, false, false, false, false, false, false, false, false] (by kernel_rfl) rfl rfl ?_)))
   have ax := (Gr.refl aY).drew
   generalize aY.drew = f1 at *
   have c5 := cZ.trans ax
   have c6 := c0.gr ax
   have c7 := cY.gr ax
   have aq := c1.gr ax
   have c8 := Nat.le_trans c2 ax.size
   have c9 := ow_gr c3 ax
   have da := ow_gr c4 ax
   have db := U.n (O.n (J.n (T.n (I.n (H.n (G.n (F.n (W.n (g.n (q.n (B.n (A.n (o.n (D.n (C.n (a.n bc))))))))))))))))
   refine h_take (S := (SxB y #[.string (bs xh60.d.id), .int .i64 (xh60.d.s), .int .i64 (xh60.d.c), .int .i64 (xh60.d.t), .int .i64 (xh60.d.n), .int .i64 (xh60.d.b), .slice xh60.va xh60.d.V.length xh60.vc, .slice xh60.ma xh60.d.M.length xh60.mc] 106)) (i := 0) (fuel := 9) U.ok rfl rfl rfl (by kernel_rfl) (by kernel_rfl) (by kernel_rfl) (fun _ _ _ _ _ h => h) (wn _ rfl) (fun x hx => o_mv db) aq (fun f2 X => ?_)
   have dc := X.n (U.n (O.n (J.n (T.n (I.n (H.n (G.n (F.n bp))))))))
   refine h_take (S := (SxB y #[.string (bs xh60.d.id), .int .i64 (xh60.d.s), .int .i64 (xh60.d.c), .int .i64 (xh60.d.t), .int .i64 (xh60.d.n), .int .i64 (xh60.d.b), .slice xh60.va xh60.d.V.length xh60.vc, .slice xh60.ma xh60.d.M.length xh60.mc] 106)) (i := 1) (fuel := 8) X.ok rfl rfl rfl (by kernel_rfl) (by kernel_rfl) (by kernel_rfl) (fun _ _ _ _ _ h => h) (wn _ rfl) (fun x hx => o_fa (z := 2) dc Tryz.underlying106 rfl (by kernel_rfl) rfl rfl) aq (fun f3 Y => ?_)
   refine h_take (S := (SxB y #[.string (bs xh60.d.id), .int .i64 (xh60.d.s), .int .i64 (xh60.d.c), .int .i64 (xh60.d.t), .int .i64 (xh60.d.n), .int .i64 (xh60.d.b), .slice xh60.va xh60.d.V.length xh60.vc, .slice xh60.ma xh60.d.M.length xh60.mc] 106)) (i := 2) (fuel := 7) Y.ok rfl rfl rfl (by kernel_rfl) (by kernel_rfl) (by kernel_rfl) (fun _ _ _ _ _ h => h) (wn _ rfl) (fun x hx => o_ldA (k := 1) (cs := [.int .i64 (xh60.d.s), .int .i64 (xh60.d.c)]) Y.at_ (bk_part (show Bk x y #[.string (bs xh60.d.id), .int .i64 (xh60.d.s), .int .i64 (xh60.d.c), .int .i64 (xh60.d.t), .int .i64 (xh60.d.n), .int .i64 (xh60.d.b), .slice xh60.va xh60.d.V.length xh60.vc, .slice xh60.ma xh60.d.M.length xh60.mc] 106 from hx) rfl) Tryz.underlying51 rfl (by kernel_rfl)) aq (fun f4 Z => ?_)
   have dd := Z.n (Y.n (X.n (U.n (O.n (J.n (T.n (I.n (H.n (G.n (F.n bp))))))))))
   refine h_take (S := (SxB y #[.string (bs xh60.d.id), .int .i64 (xh60.d.s), .int .i64 (xh60.d.c), .int .i64 (xh60.d.t), .int .i64 (xh60.d.n), .int .i64 (xh60.d.b), .slice xh60.va xh60.d.V.length xh60.vc, .slice xh60.ma xh60.d.M.length xh60.mc] 106)) (i := 5) (fuel := 6) Z.ok rfl rfl rfl (by kernel_rfl) (by kernel_rfl) (by kernel_rfl) (fun _ _ _ _ _ h => h) (wn _ rfl) (fun x hx => o_fa (z := 2) dd Tryz.underlying106 rfl (by kernel_rfl) rfl rfl) aq (fun f5 aa => ?_)
   refine h_take (S := (SxB y #[.string (bs xh60.d.id), .int .i64 (xh60.d.s), .int .i64 (xh60.d.c), .int .i64 (xh60.d.t), .int .i64 (xh60.d.n), .int .i64 (xh60.d.b), .slice xh60.va xh60.d.V.length xh60.vc, .slice xh60.ma xh60.d.M.length xh60.mc] 106)) (i := 6) (fuel := 5) aa.ok rfl rfl rfl (by kernel_rfl) (by kernel_rfl) (by kernel_rfl) (fun _ _ _ _ _ h => h) (wn _ rfl) (fun x hx => o_fa (z := 1) aa.at_ Tryz.underlying75 rfl (by kernel_rfl) rfl rfl) aq (fun f6 ab => ?_)
   refine h_take (S := (SxB y #[.string (bs xh60.d.id), .int .i64 (xh60.d.s), .int .i64 (xh60.d.c), .int .i64 (xh60.d.t), .int .i64 (xh60.d.n), .int .i64 (xh60.d.b), .slice xh60.va xh60.d.V.length xh60.vc, .slice xh60.ma xh60.d.M.length xh60.mc] 106)) (i := 7) (fuel := 4) ab.ok rfl rfl rfl (by kernel_rfl) (by kernel_rfl) (by kernel_rfl) (fun _ _ _ _ _ h => h) (wn _ rfl) (fun x hx => o_ld ab.at_ (Tryz.isAgg73 _) ((show Bk x y #[.string (bs xh60.d.id), .int .i64 (xh60.d.s), .int .i64 (xh60.d.c), .int .i64 (xh60.d.t), .int .i64 (xh60.d.n), .int .i64 (xh60.d.b), .slice xh60.va xh60.d.V.length xh60.vc, .slice xh60.ma xh60.d.M.length xh60.mc] 106 from hx).cell _ rfl)) aq (fun f7 ac => ?_)
   have df := ac.n (ab.n (aa.n Z.at_))
   obtain ⟨f8, dg, dh, bq⟩ := info3_of (show (Tryz.prog.info? 51).map (fun i => (i.zero, i.size)) = some (some (.agg #[.int .i64 0, .int .i64 0]), 2) by kernel_rfl)
   refine h_sals (S := (SxB y #[.string (bs xh60.d.id), .int .i64 (xh60.d.s), .int .i64 (xh60.d.c), .int .i64 (xh60.d.t), .int .i64 (xh60.d.n), .int .i64 (xh60.d.b), .slice xh60.va xh60.d.V.length xh60.vc, .slice xh60.ma xh60.d.M.length xh60.mc] 106)) (i := 3) (fuel := 3) (cs := #[.int .i64 (xh60.d.s), .int .i64 (xh60.d.c)]) (by kernel_rfl) rfl ac.ok rfl (wn _ rfl) rfl (o_bs (vs := [(0, .agg #[.int .i64 (xh60.d.s), .int .i64 (xh60.d.c)])]) (by simp [df, ev_const]) Tryz.underlying73 dg dh (by rw [bq]; rfl) (by rw [bq]; rfl) (by rw [bq]; kernel_rfl)) (fun w_ g_ => Bk.gr aq g_) (fun f9 ga gb ar ad => ?_)
   have di := c5.trans ar.gr
   have dj := c6.gr ar.gr
   have dk := c7.gr ar.gr
   have bU := aq.gr ar.gr
   have bV := Nat.le_trans c8 ar.gr.size
   have aO := ow_gr c9 ar.gr
   have dl := ow_gr da ar.gr
   have dm := ad.n (ac.n (ab.n (aa.n (Z.n (Y.n X.at_)))))
   obtain ⟨gc, dn, dp, dq, dr⟩ := info_of (show (Tryz.prog.info? 51).map (fun i => (i.zero, i.size, i.bytes)) = some (some (.agg #[.int .i64 0, .int .i64 0]), 2, 16) by kernel_rfl)
   refine h_app (S := SxB y #[.string (bs xh60.d.id), .int .i64 (xh60.d.s), .int .i64 (xh60.d.c), .int .i64 (xh60.d.t), .int .i64 (xh60.d.n), .int .i64 (xh60.d.b), .slice xh60.va xh60.d.V.length xh60.vc, .slice xh60.ma xh60.d.M.length xh60.mc] 106) (i := 4) (fuel := 2) (base := base) (n := nD) (xs := (flat (pI (List.take i (K.map VerI.d)) l))) (m := 1) (news := [.int .i64 xh60.d.s, .int .i64 xh60.d.c]) (by kernel_rfl) rfl ad.ok (wn _ rfl) rfl Tryz.underlying73 dn dp dq dr rfl (by omega) dm aO ad.at_ rfl (fun j u hu => by rw [add_n]; exact bk_part ar.bk (k := 0) rfl j u hu) (fun u hu => by simp at hu; rcases hu with rfl | rfl <;> rfl) (by simp only [maxLen]; omega) (by omega) bV (fun w_ g_ => bk_grownT bU aO g_ (by decide)) (fun gd gf gg au gg168 af => ?_)
   obtain ⟨gh, gi, rfl, gj⟩ := ow_form au
   have bW := Gr.grown di gg168 (fun k e => Nat.le_trans aW (ow_lt aO k e))
   have ds := dj.grown gg168 (ow_lt aO) a9
   have dt := dk.grown gg168 (ow_lt aO) aV
   have br := bU.grown_ne gg168 bJ
   have bX := Nat.le_trans bV gg168.size
   have du := ow_grown dl aO gg168 rfl
   obtain ⟨gk, dv, dx, dy, dz⟩ := info_of (show (Tryz.prog.info? 51).map (fun i => (i.zero, i.size, i.bytes)) = some (some (.agg #[.int .i64 0, .int .i64 0]), 2, 16) by kernel_rfl)
   refine h_appR (S := SxB y #[.string (bs xh60.d.id), .int .i64 (xh60.d.s), .int .i64 (xh60.d.c), .int .i64 (xh60.d.t), .int .i64 (xh60.d.n), .int .i64 (xh60.d.b), .slice xh60.va xh60.d.V.length xh60.vc, .slice xh60.ma xh60.d.M.length xh60.mc] 106) (i := 8) (fuel := 1) (base := base) (n := (nD + 1)) (xs := ((flat (pI (List.take i (K.map VerI.d)) l)) ++ [.int .i64 xh60.d.s, .int .i64 xh60.d.c])) (m := xh60.d.M.length) (news := flat xh60.d.M) (by kernel_rfl) rfl af.ok (wn _ rfl) rfl rfl Tryz.underlying73 dv dx dy dz rfl (by omega) af.at_ au (af.n (ad.n ac.at_)) (rdc_M ((hm _ (List.mem_of_getElem? ah)).gr bW)) (by simp only [maxLen]; omega) (by omega) bX br (fun w_ g_ => bk_grownT br au g_ (by decide)) (fun gl gm gn bY gg183 ai => ?_)
   obtain ⟨dA, dB, rfl, go⟩ := ow_form bY
   have dC := Gr.grown bW gg183 (fun k e => Nat.le_trans aW (ow_lt au k e))
   have dD := ds.grown gg183 (ow_lt au) a9
   have dE := dt.grown gg183 (ow_lt au) aV
   have dF := bk_grownT br au gg183 (by decide)
   have dG := Nat.le_trans bX gg183.size
   have dH := ow_grown du au gg183 rfl
   refine h_take (S := (SxB y #[.string (bs xh60.d.id), .int .i64 (xh60.d.s), .int .i64 (xh60.d.c), .int .i64 (xh60.d.t), .int .i64 (xh60.d.n), .int .i64 (xh60.d.b), .slice xh60.va xh60.d.V.length xh60.vc, .slice xh60.ma xh60.d.M.length xh60.mc] 106)) (i := 9) (fuel := 0) ai.ok rfl rfl rfl (by kernel_rfl) (by kernel_rfl) (by kernel_rfl) (fun _ _ _ _ _ h => h) (wn _ rfl) (fun x hx => o_as ai.at_) dF (fun gp aj => ?_)
   refine wpAnyH_done (by kernel_rfl) ?_ _
   refine ib_n (th_n (bH _ _ (wp_region_lit ?_)))
   have dI := aj.n (ai.n (af.n (ad.n (ac.n (ab.n (aa.n (Z.n (Y.n (X.n (U.n (O.n (J.n (T.n (I.n (H.n (G.n (F.n (W.n (g.n (q.n (B.n (A.n (o.n (D.n (C.n (a.n aX))))))))))))))))))))))))))
   refine sw aj.ok (o_add (r := ((i + 1 : Nat) : Int)) dI ev_const (by omega) (by omega)) (fun gq ak => ?_)
   refine sw ak.ok (o_mv ak.at_) (fun gs al => ?_)
   refine wpList_nil ?_
   have dJ := al.n (ak.n (aj.n (ai.n (af.n (ad.n (ac.n (ab.n (aa.n (Z.n (Y.n (X.n (U.n (O.n (J.n (T.n (I.n (H.n (G.n (F.n (W.n (g.n (q.n bo))))))))))))))))))))))
   have dK := al.n (ak.n (aj.n (ai.n (af.n (ad.n (ac.n (ab.n (aa.n (Z.n (Y.n (X.n (U.n (O.n (J.n (T.n (I.n (H.n (G.n (F.n (W.n (g.n (q.n (B.n (A.n (o.n (D.n (C.n (a.n ba))))))))))))))))))))))))))))
   have dL := al.n (ak.n (aj.n (ai.n (af.n (ad.n (ac.n (ab.n (aa.n (Z.n (Y.n (X.n (U.n (O.n (J.n (T.n (I.n (H.n (G.n (F.n (W.n (g.n (q.n (B.n (A.n (o.n (D.n (C.n (a.n bF))))))))))))))))))))))))))))
   have dM := al.n (ak.n (aj.n (ai.n (af.n (ad.n (ac.n (ab.n (aa.n (Z.n (Y.n (X.n bT)))))))))))
   have dO := al.n (ak.n (aj.n (ai.n (af.n (ad.n (ac.n (ab.n (aa.n (Z.n (Y.n (X.n (U.n (O.n (J.n (T.n (I.n (H.n (G.n (F.n (W.n (g.n (q.n (B.n (A.n (o.n (D.n (C.n (a.n bd))))))))))))))))))))))))))))
   have dS := al.n (ak.n (aj.n (ai.n (af.n (ad.n (ac.n (ab.n (aa.n (Z.n (Y.n (X.n (U.n (O.n (J.n (T.n (I.n (H.n (G.n (F.n (W.n (g.n (q.n (B.n (A.n (o.n (D.n (C.n (a.n bf))))))))))))))))))))))))))))
   exact th_n (hKI45 _ _ _ (by omega) ⟨i + 1, ka2, nV2, kb2, kc2, kd2, dA, ((nD + 1) + xh60.d.M.length), dB, rfl, al.ok, dC, dJ, dK, dL, dM, (al.n (ak.n aj.at_)), dO, dS, al.at_, dD, dE, (by have h := bY; rw [pI_step (map_at ah) aJ, flat_app]; simpa [ndI, flat, List.append_assoc] using h), dH, dG, by omega, hN2⟩)
  ·refine wp_cond_false ((g.at_).trans (congrArg Value.bool (decide_eq_false aJ))) ?_
   refine wp_skip (ib_n (th_n (bH _ _ (wp_region_lit ?_))))
   have dT := g.n (q.n (B.n (A.n (o.n (D.n (C.n (a.n aX)))))))
   refine sw g.ok (o_add (r := ((i + 1 : Nat) : Int)) dT ev_const (by omega) (by omega)) (fun gt am => ?_)
   refine sw am.ok (o_mv am.at_) (fun gu an => ?_)
   refine wpList_nil ?_
   have dU := an.n (am.n (g.n (q.n bo)))
   have dV := an.n (am.n (g.n (q.n (B.n (A.n (o.n (D.n (C.n (a.n ba)))))))))
   have dW := an.n (am.n (g.n (q.n (B.n (A.n (o.n (D.n (C.n (a.n bF)))))))))
   have dX := an.n (am.n (g.n (q.n (B.n (A.n (o.n (D.n (C.n (a.n bb)))))))))
   have dY := an.n (am.n (g.n (q.n (B.n (A.n (o.n (D.n (C.n (a.n bc)))))))))
   have dZ := an.n (am.n (g.n (q.n (B.n (A.n (o.n (D.n (C.n (a.n bd)))))))))
   have d0 := an.n (am.n (g.n (q.n (B.n (A.n (o.n (D.n (C.n (a.n bf)))))))))
   exact th_n (hKI45 _ _ _ (by omega) ⟨i + 1, ka, nV, kb, kc, kd, ra, nD, rc, rfl, an.ok, bl, dU, dV, dW, dX, dY, dZ, d0, an.at_, bK, bm, (by rw [pI_skip (map_at ah) aJ]; exact bL), (by rw [pV_skip (map_at ah) aJ]; exact bM), bn, by omega, by omega⟩)
 ·refine wp_cond_false ((a.at_).trans (congrArg Value.bool (decide_eq_false bG))) ?_
  refine wp_exit (th_x (th_x (ib_x (th_n (cf _ _ (wp_seq_k (fun gx d1 => (wp_region_lit (sw a.ok (o_ldR (a.n bb) kb23I45 Tryz.underlying75 rfl (by kernel_rfl)) (fun gy aZ => ?_))))))))))
  refine sw aZ.ok (o_mv (aZ.n (a.n bc))) (fun gz a1 => ?_)
  refine sc a1.ok rfl (wn _ rfl) rfl (o_f2 Tryz.func134 rfl rfl rfl (a1.n aZ.at_) a1.at_) ((by have h := addAll_n (pV (List.take i (K.map VerI.d)) l) (pI (List.take i (K.map VerI.d)) l) nV nD ka kc ra kb kd rc base (pV_pure _ _) (pI_in l (fun x hx => hok x (List.mem_of_mem_take hx))) (by have h2 := pI_len l (L := (List.take i (K.map VerI.d))) (fun x hx => hok x (List.mem_of_mem_take hx)); rw [List.length_take, List.length_map] at h2; have h3 : 61 * min i K.length ≤ 61 * 60 := Nat.mul_le_mul_left _ (by omega); omega) hNI45 w cq GI45 aW zbaseI45 odrI45 okvI45; rw [List.take_of_length_le (by rw [List.length_map]; omega)] at h; exact h)) ?_
  rintro _ gA ⟨kk, rfl, hkk, bZ⟩
  obtain ⟨pa, pn, pc, qa, qn, qc, rfl⟩ := knR_form hkk.rd
  refine ⟨_, rfl, fun gB a2 => ?_⟩
  have d2 := Gr.grown GI45 bZ (fun k e => Nat.le_trans aW (ow_lt odrI45 k e))
  have bt := kb3I45.grown bZ (ow_lt odrI45) a9
  refine sw a2.ok (o_ex a2.at_ rfl) (fun gC a3 => ?_)
  refine sw a3.ok (o_ex (a3.n a2.at_) rfl) (fun gD a4 => ?_)
  have b0 := a4.n (a3.n (a2.n (a1.n (aZ.n (a.n ba)))))
  refine ssR rfl (wn _ rfl) (o_stR b0 (a4.n a3.at_) bt (by kernel_rfl) rfl (by simp [Value.oneCell'])) bt (fun d3 b1 d4 => ?_)
  have d5 : Gr w d3 := Below.upd d2 l6 b1
  have d6 := KnW.tks hkk (tks_upd b1 bt (by decide))
  refine sw a4.ok (o_as a4.at_) (fun gE bu => ?_)
  refine wpList_nil (th_n (d1 _ _ (wp_ret (ret2 bu.ok rfl (⟨_, _, (bu.n b0), ld_row d4 Tryz.underlying75 rfl (by kernel_rfl)⟩) (bu.at_) ⟨_, _, rfl, d6, d5⟩))))
end Go.Proofs.YtglbnggkkjhokaaGreat
/- What is past of a thing in the store of what was told. -/
namespace Rm
open Go Go.RowKit Gx
theorem mem_pF {L : List VerD} {id : List UInt8} {x : VerD} : x ∈ pF L id ↔ x ∈ L ∧ x.id = id := by
 unfold pF
 rw [List.mem_filter, decide_eq_true_eq]
theorem pD_of {L : List VerD} {id : List UInt8} {s c : Nat} (h : pD L id s c = true) : ∃ x ∈ L, x.id = id ∧ (dsV x s c = true ∨ (s = x.s.toNat ∧ c = x.c.toNat)) := by
 unfold pD addS at h
 rw [Bool.or_eq_true, decide_eq_true_eq] at h
 rcases h with h | h
 ·unfold pV at h
  obtain ⟨x, hx, h1⟩ := List.any_eq_true.1 h
  obtain ⟨h2, h3⟩ := mem_pF.1 hx
  refine ⟨x, h2, h3, .inl ?_⟩
  unfold vD at h1
  unfold dsV
  rw [memB_iff] at h1 ⊢
  rcases h1 with h1 | h1
  ·exact .inl h1
  ·cases h1
 ·unfold toN at h
  obtain ⟨d, hd, e⟩ := List.mem_map.1 h
  unfold pI at hd
  obtain ⟨x, hx, h1⟩ := List.mem_flatMap.1 hd
  obtain ⟨h2, h3⟩ := mem_pF.1 hx
  refine ⟨x, h2, h3, ?_⟩
  injection e with e1 e2
  rcases List.mem_cons.1 h1 with rfl | h1
  ·exact .inr ⟨e1.symm, e2.symm⟩
  ·refine .inl ?_
   unfold dsV
   rw [memB_iff]
   exact .inr (List.mem_map.2 ⟨d, h1, by rw [e1, e2]⟩)
end Rm
namespace Gx
open Go Go.RowKit Rm
section
variable {P : Program} {ev : Operand → Value} {d : Option Tmp} {ty : TypeId} {p : String} {af : Array Edge} {g : Option (Nat × Bool)} {w : World}
end
end Gx
namespace Go.Proofs.YtglbnggkkjhokaaGreat
open Go.RowKit Rm Gx
end Go.Proofs.YtglbnggkkjhokaaGreat
/- A site: what it holds; what stands while a site changes. -/
namespace Rm
open Go Go.RowKit Gx
structure SiD where
  me : Nat
  made : Nat
  stamp : Nat
  T : Nat → Nat
  L : List VerD
  P : List PtX
end Rm
namespace Go.Proofs.YtglbnggkkjhokaaGreat
open Go.RowKit Rm Gx
def siT : List TypeId := [3, 51, 177, 134, 106, 151, 77]
def TkW (w w' : World) : Prop := ∀ (k : Nat) (cs : Array Value) (t : TypeId) (fr : Nat × Nat), w.heap[k]? = some (.cells cs t fr) → siT.contains t = true → w'.heap[k]? = w.heap[k]?
theorem siT_p (t : TypeId) (h : ptT.contains t = true) : siT.contains t = true := by
 unfold ptT at h
 unfold siT
 simp only [List.contains_cons, List.contains_nil, Bool.or_false, Bool.or_eq_true, beq_iff_eq] at h ⊢
 rcases h with h | h | h | h <;> simp [h]
theorem siT_s (t : TypeId) (h : shT.contains t = true) : siT.contains t = true := by
 unfold shT at h
 unfold siT
 simp only [List.contains_cons, List.contains_nil, Bool.or_false, Bool.or_eq_true, beq_iff_eq] at h ⊢
 rcases h with h | h <;> simp [h]
theorem TkW.p {w w' : World} (h : TkW w w') : Tk w w' := fun k cs t fr e ht => h k cs t fr e (siT_p t ht)
theorem TkW.s {w w' : World} (h : TkW w w') : TkS w w' := fun k cs t fr e ht => h k cs t fr e (siT_s t ht)
theorem tkw_gr {w w' : World} (g : Gr w w') : TkW w w' := fun k cs t fr h _ => Below.block g k (Array.getElem?_eq_some_iff.1 h).1
theorem tkw_gb {w w' : World} {b : Nat} {cs : Array Value} {t : TypeId} (g : w.grownBy w' (some b)) (h : Bk w b cs t) (ht : siT.contains t = false) : TkW w w' := fun k cs' t' fr h' ht' => g.block k (Array.getElem?_eq_some_iff.1 h').1 (fun e => by
 obtain rfl : k = b := by simpa using e
 unfold Bk at h
 rw [h] at h'
 injection h' with h'
 injection h' with _ h2
 subst h2
 rw [ht] at ht'
 cases ht')
theorem ow_tkw {w w' : World} {base s n : Nat} {t : TypeId} {v : Value} {xs : List Value} (h : w.ownsRow base t s v n xs) (k : TkW w w') (ht : siT.contains t = true) : w'.ownsRow base t s v n xs := by
 obtain ⟨h1, h2 | ⟨b, cap, cur, rfl, h3, hg, h4⟩⟩ := h
 ·exact ⟨h1, .inl h2⟩
 ·exact ⟨h1, .inr ⟨b, cap, cur, rfl, h3, (k b cur t (0, 0) hg ht).trans hg, h4⟩⟩
theorem ow_any {w : World} {base s n : Nat} {t : TypeId} {v : Value} {xs : List Value} (h : w.ownsRow base t s v n xs) : w.ownsRow 0 t s v n xs := ow_lessP h (Nat.zero_le _)
theorem ResV.tkw {base : Nat} {w w' : World} {u : Value} {L : List VerD} (h : ResV base w u L) (k : TkW w w') : ResV base w' u L := by
 obtain ⟨R, h1, h2, h3⟩ := h
 exact ⟨R, h1, ow_tkw h2 k (by decide), h3.tk k.s⟩
theorem ResV.any {base : Nat} {w : World} {u : Value} {L : List VerD} (h : ResV base w u L) : ResV 0 w u L := by
 obtain ⟨R, h1, h2, h3⟩ := h
 exact ⟨R, h1, ow_any h2, h3.base (Nat.zero_le _)⟩
theorem ResV.rd {base : Nat} {w : World} {u : Value} {L : List VerD} (h : ResV base w u L) : ∃ (K : List VerI) (a : Option Addr) (c : Nat), u = .slice a K.length c ∧ K.map VerI.d = L ∧ K.length ≤ c ∧ (a = none → c = 0) ∧ RdA encVr 8 w a K ∧ MeansV w K := by
 obtain ⟨R, h1, h2, h3⟩ := h
 obtain ⟨a, c, rfl, hc⟩ := ow_form h2
 exact ⟨R, a, c, rfl, h1, hc, (ow_capf h2).2, RdA.own encVr_ok h2 rfl, h3.mean⟩
theorem ResV.none (w : World) : ResV 0 w (.slice none 0 0) [] := ⟨[], rfl, World.ownsRow_nil w 0 106 8, fun x hx => by cases hx⟩
def PL (base : Nat) (w : World) (v : Value) (F : List PtX) : Prop := w.ownsRow base 151 3 v F.length (flatE encP F) ∧ OwnsP base w F
theorem PL.tkw {base : Nat} {w w' : World} {v : Value} {F : List PtX} (h : PL base w v F) (k : TkW w w') : PL base w' v F := ⟨ow_tkw h.1 k (by decide), h.2.tk k.p⟩
theorem OwnsP.any {base : Nat} {w : World} {F : List PtX} (h : OwnsP base w F) : OwnsP 0 w F := fun x hx => (h x hx).base (Nat.zero_le _)
theorem PL.any {base : Nat} {w : World} {v : Value} {F : List PtX} (h : PL base w v F) : PL 0 w v F := ⟨ow_any h.1, h.2.any⟩
theorem PL.rd {base : Nat} {w : World} {v : Value} {F : List PtX} (h : PL base w v F) : ∃ (a : Option Addr) (c : Nat), v = .slice a F.length c ∧ F.length ≤ c ∧ (a = none → c = 0) ∧ RdA encP 3 w a F ∧ MeansP w F := by
 obtain ⟨a, c, rfl, hc⟩ := ow_form h.1
 exact ⟨a, c, rfl, hc, ow_nil h.1, RdA.own encP_ok h.1 rfl, h.2.mean⟩
theorem PL.nil (w : World) : PL 0 w (.slice none 0 0) [] := ⟨World.ownsRow_nil w 0 151 3, fun x hx => by cases hx⟩
theorem FO.any {base n : Nat} {w : World} {v : Value} {T : Nat → Nat} (h : FO base n w v T) : FO 0 n w v T := h.base (Nat.zero_le _)
def SiteAt (w : World) (b : Nat) (S : SiD) : Prop := ∃ fa fn fc sa sn sc la lc, Bk w b #[.int .i64 (S.me : Int), .int .i64 (S.made : Int), .int .i64 (S.stamp : Int), .slice fa fn fc, .slice sa sn sc, .slice la S.P.length lc] 125 ∧ FO 0 16 w (.slice fa fn fc) S.T ∧ ResV 0 w (.slice sa sn sc) S.L ∧ PL 0 w (.slice la S.P.length lc) S.P
theorem SiteAt.bk {w : World} {b : Nat} {S : SiD} (h : SiteAt w b S) : ∃ cs, Bk w b cs 125 := by
 obtain ⟨_, _, _, _, _, _, _, _, h, _⟩ := h
 exact ⟨_, h⟩
theorem SiteAt.lt {w : World} {b : Nat} {S : SiD} (h : SiteAt w b S) : b < w.heap.size := by
 obtain ⟨cs, h⟩ := h.bk
 exact h.lt
theorem SiteAt.gr {w w' : World} {b : Nat} {S : SiD} (h : SiteAt w b S) (g : Gr w w') : SiteAt w' b S := by
 obtain ⟨fa, fn, fc, sa, sn, sc, la, lc, h1, h2, h3, h4⟩ := h
 have k := tkw_gr g
 exact ⟨fa, fn, fc, sa, sn, sc, la, lc, h1.gr g, h2.tk k.p, h3.tkw k, h4.tkw k⟩
theorem SiteAt.tk {w w' : World} {b : Nat} {S : SiD} (h : SiteAt w b S) (g : w.grownBy w' (some b)) : TkW w w' := by
  obtain ⟨cs, h⟩ := h.bk
  exact tkw_gb g h (by decide)
theorem bk_site {w w' : World} {b c : Nat} {S : SiD} {cs : Array Value} {t : TypeId} (h : Bk w c cs t) (k : SiteAt w b S) (g : w.grownBy w' (some b)) (ht : Nat.beq t 125 = false) : Bk w' c cs t :=
 (g.block c h.lt (fun e => by
  obtain rfl : c = b := by simpa using e
  obtain ⟨cs', h'⟩ := k.bk
  unfold Bk at h h'
  rw [h] at h'
  injection h' with h'
  injection h' with _ h2
  rw [h2] at ht
  simp at ht)).trans h
theorem gr_site {a w w' : World} {b : Nat} (h : Gr a w) (g : w.grownBy w' (some b)) (hb : a.heap.size ≤ b) : Gr a w' := h.grown g (fun k e => by cases e; exact hb)
end Go.Proofs.YtglbnggkkjhokaaGreat
/- A region that draws its order: a chain of calls, one of which changes a block that is older; then two parts of its answer are taken, a block is made whenever it likes, and the first part is stored in it. -/
namespace Gx
open Go Go.RowKit Rm
section
variable {P : Program} {ops : Array Oper} {Q : Exit → Act → World → Prop} {N : Nat} {a₀ : Act} {w₀ : World} {hs : List Nat} {r : Option Nat} {c : Nat}
structure PreM (ops : Array Oper) (hs : List Nat) (js : Js) (N : Nat) (a₀ : Act) (w₀ : World) (r : Option Nat) (c i : Nat) (o : Oper) (a : Act) (w : World) : Prop where
 ok : Ok N a
 gr : w₀.grownBy w r
 gr0 : i = c → Gr w₀ w
 old : ∀ t, (fdH ops hs).all (fun d => !Nat.beq t d) = true → a.eval (.tmp t) = a₀.eval (.tmp t)
 pre : ∀ j, waits o j = true → jAt js j (a.eval (.tmp (dstAt ops j))) w
theorem prem_drop {n i : Nat} {js : Js} {J : Value → World → Prop} {o' : Oper} {a : Act} {w : World} (hb : backs ops = true) (hi : i < n + 1) (ho' : ops[i]? = some o') (p : PreM ops hs ((n, J) :: js) N a₀ w₀ r c i o' a w) : PreM ops hs js N a₀ w₀ r c i o' a w := by
 refine ⟨p.ok, p.gr, p.gr0, p.old, fun j hj => ?_⟩
 have h1 := p.pre j hj
 have hlt : j < n := by
  unfold waits at hj
  obtain ⟨e, he, hh⟩ := List.any_eq_true.1 hj
  have h2 := backs_spec hb i o' ho' e (by simpa using he) (Bool.and_eq_true_iff.1 hh).1
  simp only [Bool.and_eq_true] at hh
  have h3 := Nat.eq_of_beq_eq_true hh.2
  omega
 rwa [jAt_ne (by omega)] at h1
structure PostM (ops : Array Oper) (hs : List Nat) (r : Option Nat) (f : Nat) (js : Js) (N : Nat) (a₀ : Act) (w₀ : World) (a : Act) (w : World) : Prop where
 ok : Ok N a
 gr : w₀.grownBy w r
 old : ∀ t, (fdH ops (f :: hs)).all (fun d => !Nat.beq t d) = true → a.eval (.tmp t) = a₀.eval (.tmp t)
 js : ∀ j, hd hs j = true → jAt js j (a.eval (.tmp (dstAt ops j))) w
end
section
variable {N : Nat} {ap : Act} {wp w₀ : World} {df d0 d1 : Nat} {v0 v1 : Value} {z : Array Value} {ty : TypeId} {b0 b1 bf : Bool} {a : Act} {w : World}
end
section
variable {P : Program} {ops : Array Oper} {Q : Exit → Act → World → Prop} {N : Nat}
end
section
variable {P : Program} {ops : Array Oper} {Q : Exit → Act → World → Prop} {N : Nat}
theorem st_part {ev : Operand → Value} {w : World} {x y : Operand} {ty : TypeId} {p : String} {af : Array Edge} {gd : Option (Nat × Bool)} {b k : Nat} {t t' : TypeId} {cs cs' : Array Value} {vs : List Value}
    (hx : ev x = .pointer (some ⟨b, k, none⟩)) (hy : ev y = .agg vs.toArray) (hi : (P.info? t).map (·.size) = some vs.length)
    (hb : Bk w b cs t') (hk : Nat.ble (k + vs.length) cs.size = true) (h1 : vs.all (·.oneCell') = true) (hcs : cs'.toList = splL cs.toList k vs) : ∃ w2, (execOp ev (Oper.mk none (.store t x y) ty p af gd)).run P w = .ok .skip w2 ∧ Upd w w2 b ∧ Bk w2 b cs' t' := by
  have hk := Nat.le_of_ble_eq_true hk
  obtain ⟨c2, h2, h3⟩ := setCells_blk (b := b) vs k w cs hb
  have hc2 : c2 = cs' := by
    apply Array.toList_inj.1
    rw [h3, hcs]
  subst hc2
  have hst := run_storeCells_cells (P := P) b k vs 0 w (by
    intro j hj
    simp only [Nat.add_zero]
    have hlt : k + j < cs.size := by omega
    rw [hb.cell (k + j) (Array.getElem?_eq_getElem hlt)]
    rfl) (fun j hj => hb.frozen _) (fun v hv => List.all_eq_true.1 h1 v hv)
  simp only [Nat.add_zero] at hst
  refine ⟨w.setCells b k vs, ?_, setCells_upd _ _ _ _, h2⟩
  have hsz := size_of hi w
  unfold execOp
  simp only [hx, hy, Instr.storeAt, Instr.sureAddr, storeVar, Value.cells, Sem.run_bind, Sem.run_pure, Result.andThen_ok, hsz]
  simp [hst, go_sem]
theorem h_stP {bs : List Nat} {w₀ : World} {i fuel : Nat} {L : Array Bool} {a : Act} {w : World} {x y : Operand} {ty : TypeId} {p : String} {af : Array Edge} {gd : Option (Nat × Bool)} {b k : Nat} {t t' : TypeId} {cs cs' : Array Value} {vs : List Value}
  (hr : Region.ready .any ops L = [i]) (ho : ops[i]? = some (Oper.mk none (.store t x y) ty p af gd)) (hw : Region.wanted (Oper.mk none (.store t x y) ty p af gd) (yielded ops a.tmps) = true) (hx : a.eval x = .pointer (some ⟨b, k, none⟩)) (hy : a.eval y = .agg vs.toArray) (hi : (P.info? t).map (·.size) = some vs.length)
  (hb : Bk w b cs t') (hk : Nat.ble (k + vs.length) cs.size = true) (h1 : vs.all (·.oneCell') = true) (hcs : cs'.toList = splL cs.toList k vs) (hS : Sx bs w₀ w) (hm : b ∈ bs)
  (h : ∀ w', Upd w w' b → Bk w' b cs' t' → Sx bs w₀ w' → wpAnyH P .any ops Q (Sx bs w₀) fuel (L.setIfInBounds i true) a w') : wpAnyH P .any ops Q (Sx bs w₀) (fuel + 1) L a w := by
 obtain ⟨w2, hrun, hu, hbk⟩ := st_part (P := P) (ev := a.eval) (ty := ty) (p := p) (af := af) (gd := gd) hx hy hi hb hk h1 hcs
 exact h_st hr ho rfl hw hrun (hS.upd hu hm) (h _ hu hbk (hS.upd hu hm))
variable {ev : Operand → Value} {d : Option Tmp} {ty : TypeId} {p : String} {af : Array Edge} {g : Option (Nat × Bool)} {w : World}
theorem o_nc {x : Operand} {ad : Addr} (h : ev x = .pointer (some ad)) : (execOp ev (Oper.mk d (.nilCheck x) ty p af g)).run P w = .ok (.value (.pointer (some ad))) w := by
 simp [execOp, h, go_sem]
end
end Gx
/- site.isSite, copyFilter, has, known, only, ownDots. -/
namespace Rm
open Go Go.RowKit Gx
def zv (n : Nat) : Array Value := madeCells (Value.int .i64 0).cells n
def ovA (me made : Nat) : Array Value := ((ints (List.replicate me 0 ++ [made])).map (Value.int .i64)).toArray
end Rm
namespace Go.Proofs.YtglbnggkkjhokaaGreat
open Go.RowKit Rm Gx
theorem siz_info : (Tryz.prog.info? 3).map (fun i => (i.zero, i.size, i.bytes)) = some (some (.int .i64 0), 1, 8) := by kernel_rfl
section
variable {ev : Operand → Value} {d : Option Tmp} {ty : TypeId} {p : String} {af : Array Edge} {g : Option (Nat × Bool)} {w : World}
theorem o_mkI {x y : Operand} {n : Nat} (hn : n ≤ 30) (hx : ev x = .int .i64 (n : Int)) (hy : ev y = .int .i64 (n : Int)) : (execOp ev (Oper.mk d (.makeSlice 45 x y) ty p af g)).run Tryz.prog w = .ok (.value (.slice (some ⟨w.heap.size, 0, none⟩) n n)) (w.alloc (.cells (zv n) 3)) := by
 obtain ⟨i0, hi0, hz0, hz1, hz2⟩ := info_parts siz_info
 have h := run_make (P := Tryz.prog) w 45 3 i0 _ Tryz.underlying45 hi0 hz0 .i64 .i64 (n : Int) (n : Int) (by omega) (by omega) (by rw [hz2]; omega) (by omega)
 rw [hz1] at h
 have h' : (Instr.makeSlice 45 (.int .i64 (n : Int)) (.int .i64 (n : Int))).run Tryz.prog w = .ok (.slice (some ⟨w.heap.size, 0, none⟩) n n) (w.alloc (.cells (zv n) 3)) := by
  unfold zv
  simpa using h
 unfold execOp
 simp only [hx, hy, Sem.run_bind, h', Result.andThen_ok]
 rfl
end
theorem zv_at {n k : Nat} (h : k < n) : (zv n)[k]? = some (.int .i64 0) := by
 unfold zv madeCells
 rw [Array.getElem?_map, Array.getElem?_range, if_pos h]
 simp [Value.cells, Nat.mod_one]
theorem zv_sz (n : Nat) : (zv n).size = n := by unfold zv; rw [size_madeCells]
theorem zv_set (me made : Nat) : (zv (me + 1)).setIfInBounds me (.int .i64 (made : Int)) = ovA me made := by
 apply Array.ext_getElem?
 intro i
 unfold ovA ints
 rw [Array.getElem?_setIfInBounds]
 simp only [zv_sz, List.getElem?_toArray, List.map_append, List.map_replicate, List.map_cons, List.map_nil]
 by_cases h : me = i
 ·subst h
  simp
 ·rw [if_neg h]
  rcases Nat.lt_or_ge i me with q | q
  ·rw [zv_at (by omega), List.getElem?_append_left (by simpa using q)]
   simp [q]
  ·rw [List.getElem?_append_right (by simpa using q), Array.getElem?_eq_none (by rw [zv_sz]; omega)]
   symm
   apply List.getElem?_eq_none
   simp
   omega
def ownV (me made : Nat) : List Nat := if made = 0 then [] else List.replicate me 0 ++ [made]
def ownD (me made : Nat) : DS := fun s c => decide (s = me ∧ 1 ≤ c ∧ c ≤ made)
theorem ownV_ok {me made : Nat} (hm : me < 5) (hk : made ≤ 1000) : OkV (ownV me made) [] := by
 unfold ownV
 by_cases h : made = 0
 ·rw [if_pos h]; exact ⟨by simp, by simp, by simp, by simp, by simp⟩
 ·rw [if_neg h]
  refine ⟨by simp; omega, ?_, ?_, by simp, by simp⟩
  ·intro x hx
   rcases List.mem_append.1 hx with hx | hx
   ·rw [List.eq_of_mem_replicate hx]; omega
   ·rw [List.mem_singleton.1 hx]; exact hk
  ·simp [h]
theorem ownV_mem {me made : Nat} (hm : me < 5) (hk : made ≤ 1000) : EqD (memB (ownV me made) []) (ownD me made) := fun s c i => by
 rw [Bool.eq_iff_iff, memB_iff]
 unfold ownD
 rw [decide_eq_true_eq]
 simp only [List.not_mem_nil, or_false]
 have h1 := i.2.1
 unfold ownV
 by_cases h : made = 0
 ·rw [if_pos h]; simp [cv]; omega
 ·rw [if_neg h]
  have e : cv (List.replicate me 0 ++ [made]) s = if s = me then made else 0 := by
   unfold cv
   by_cases q : s = me
   ·subst q; simp
   ·rw [if_neg q]
    rcases Nat.lt_or_ge s me with q2 | q2
    ·simp [List.getElem?_append_left, q2]
    ·rw [List.getD_eq_getElem?_getD, List.getElem?_eq_none (by simp; omega)]
     rfl
  rw [e]
  split <;> omega
theorem ownV_form {me made : Nat} (hm : me < 5) (hk : made ≤ 1000) : formV (ownD me made) = ownV me made ∧ formM (ownD me made) = [] := (ownV_ok hm hk).form (ownV_mem hm hk)
theorem fs_zero (w : World) : FS w (.slice none 0 0) (fun _ => 0) := ⟨[], RdF.nil w, (fun b hb => by cases hb), by simp, fun t _ => rfl⟩
theorem isSite_ok (n : Nat) (hn : n < 5) (w : World) :
  Calls Tryz.prog 67 #[.int .i64 (n : Int)] w fun e w' => e = .returned (.bool true) ∧ Gr w w' := by
 refine enter (N := 9) Tryz.func67 rfl rfl rfl (fun t ok0 l => ?_)
 have o : t.eval (.tmp 0) = .int .i64 (n : Int) := l 0 _ rfl
 clear l
 have u := Gr.refl w
 refine wp_seq_k (fun B y => (wp_region_lit (sw ok0 (o_as ev_const) (fun C c => ?_))))
 refine wpList_nil (th_n (y _ _ (wp_seq_k (fun D z => (wp_region_lit (sw c.ok (o_mv (c.n o)) (fun E g => ?_)))))))
 refine sw g.ok (o_geq g.at_ ev_const (decide_eq_true (show (n : Int) ≥ 0 by omega))) (fun F h => ?_)
 refine sw h.ok (o_mv h.at_) (fun G a => ?_)
 have A := a.n (h.n (g.n (c.n o)))
 refine sv a.ok rfl (wgT rfl (yl 2 true rfl a.at_) rfl) rfl (o_mv A) (fun H b => ?_)
 refine sv b.ok rfl (wgT rfl (yl 2 true rfl (b.n a.at_)) rfl) rfl (o_lss b.at_ ev_const (decide_eq_true (show (n : Int) < 5 by omega))) (fun I j => ?_)
 refine sw j.ok (o_pkT (j.n (b.n a.at_)) j.at_) (fun J q => ?_)
 refine sw q.ok (o_as q.at_) (fun K r => ?_)
 refine wpList_nil (th_n (z _ _ (wp_ret (ret1 r.ok rfl (r.at_) ⟨rfl, u⟩))))
theorem copyf_any (fv : Value) (T : Nat → Nat) (w : World) (hf : FS w fv T) :
  Calls Tryz.prog 68 #[fv] w fun e w' => ∃ a n c, e = .returned (.tuple #[.slice a n c, .int .i64 0]) ∧ FO w.heap.size 16 w' (.slice a n c) T ∧ Gr w w' := by
 refine enter (N := 8) Tryz.func68 rfl rfl rfl (fun z ok0 q => ?_)
 have A : z.eval (.tmp 0) = fv := q 0 _ rfl
 clear q
 have B := Gr.refl w
 refine wp_seq_k (fun G C => (wp_region_lit (sw ok0 (o_as ev_const) (fun H r => ?_))))
 refine sw r.ok (o_as ev_const) (fun I t => ?_)
 refine wpList_nil (th_n (C _ _ (wp_seq_k (fun J D => (wp_region_lit (sw t.ok (o_mv (t.n (r.n A))) (fun K y => ?_)))))))
 refine sc y.ok rfl (wn _ rfl) rfl (o_f2 Tryz.func65 rfl rfl rfl y.at_ ev_const) ((fjoin_own hf (fs_zero _))) ?_
 rintro _ L ⟨u, rfl, hu, E⟩
 obtain ⟨fa, fn, fc, rfl⟩ := hu.form
 refine ⟨_, rfl, fun M b => ?_⟩
 have F := B.trans E
 refine sw b.ok (o_ex b.at_ rfl) (fun O g => ?_)
 refine sw g.ok (o_ex (g.n b.at_) rfl) (fun S j => ?_)
 refine sw j.ok (o_as (j.n g.at_)) (fun U l => ?_)
 refine sw l.ok (o_as (l.n j.at_)) (fun V o => ?_)
 refine wpList_nil (th_n (D _ _ (wp_ret (ret2 o.ok rfl ((o.n l.at_)) (o.at_) ⟨fa, fn, fc, rfl, by have h := hu; simp only [Nat.or_zero] at h; exact h, F⟩))))
theorem only_k (K : List VerI) (va : Option Addr) (vc : Nat) (f : FuncId) (caps : List Value) (p : VerI → Bool) (hf : FnOk Tryz.prog f) (hl : K.length ≤ 1000) (hok : ∀ x ∈ K, okVr x) (w : World) (hv : RdA encVr 8 w va K) (hm : MeansV w K) (hc : ∀ x ∈ K, ∀ w1, Gr w w1 → Calls Tryz.prog f (.agg #[.string (bs x.d.id), .int .i64 (x.d.s), .int .i64 (x.d.c), .int .i64 (x.d.t), .int .i64 (x.d.n), .int .i64 (x.d.b), .slice x.va x.d.V.length x.vc, .slice x.ma x.d.M.length x.mc] :: caps).toArray w1 fun e w2 => e = .returned (.bool (p x)) ∧ Gr w1 w2) :
  Calls Tryz.prog 71 #[.slice va K.length vc, .func (.func f) #[] caps.toArray] w fun e w' => ∃ v : Value, e = .returned v ∧ ResV w.heap.size w' v ((K.filter p).map VerI.d) ∧ Gr w w' := by
 refine enter (N := 31) Tryz.func71 rfl rfl rfl (fun a0 ok0 h0 => ?_)
 have a8 : a0.eval (.tmp 0) = .slice va K.length vc := h0 0 _ rfl
 have a9 : a0.eval (.tmp 1) = .func (.func f) #[] caps.toArray := h0 1 _ rfl
 clear h0
 have G0 := Gr.refl w
 obtain ⟨base, z1⟩ : ∃ n, n = w.heap.size := ⟨_, rfl⟩
 have l2 : w.heap.size ≤ base := by rw [z1]; exact G0.size
 have z3 : base ≤ w.heap.size := Nat.le_of_eq z1
 have O4 := World.ownsRow_nil w base 106 8
 have hps : OwnsVr base w ([] : List VerI) := fun x hx => by cases hx
 refine wp_seq_k (fun K5 bd => (wp_region_lit (sw ok0 (o_as ev_const) (fun cp n6 => ?_))))
 refine wpList_nil (th_n (bd _ _ (wp_seq_k (fun K7 bf => (wp_region_lit (sw n6.ok (o_as ev_const) (fun cr n8 => ?_)))))))
 refine wpList_nil (th_n (bf _ _ (wp_seq_k (fun K9 bg => (wp_seq_k (fun cu bh => (wp_region_lit (sw n8.ok (o_mv (n8.n (n6.n a8))) (fun cx ab => ?_)))))))))
 refine sw ab.ok (o_len ab.at_ Tryz.underlying41) (fun cy ac => ?_)
 refine sw ac.ok (o_mv ev_const) (fun cz T => ?_)
 refine wpList_nil (th_n (bh _ _ (wp_block ?_)))
 have bi := T.n (ac.n (ab.n (n8.n (n6.n a9))))
 have bj := T.n (ac.n (ab.n (n8.n n6.at_)))
 have bl := T.n (ac.n (ab.n n8.at_))
 refine lp (fun (nL : Nat) (aL : Act) (wL : World) => ∃ i : Nat, ∃ R : List VerI, ∃ ra : Option Addr, ∃ rc : Nat, nL = K.length - i ∧ Ok 31 aL ∧ Gr w wL ∧ (aL.eval (.tmp 1) = .func (.func f) #[] caps.toArray) ∧ (aL.eval (.tmp 4) = .slice none 0 0) ∧ (aL.eval (.tmp 5) = .slice ra (R.length) rc) ∧ (aL.eval (.tmp 8) = .slice va K.length vc) ∧ (aL.eval (.tmp 9) = .int .i64 ((K.length : Nat) : Int)) ∧ (aL.eval (.tmp 10) = .int .i64 (i : Int)) ∧ (OwnsVr base wL R) ∧ (World.ownsRow wL base 106 8 (.slice ra (R.length) rc) (R.length) ((flatE encVr R))) ∧ (base ≤ wL.heap.size) ∧ (i ≤ K.length) ∧ (R.map VerI.d = ((K.take i).filter p).map VerI.d)) _ ⟨0, [], none, 0, rfl, T.ok, G0, bi, bj, bl, (T.n (ac.n ab.at_)), (T.n ac.at_), T.at_, hps, O4, z3, by omega, rfl⟩ ?_
 rintro cA cB cC ⟨i, R, ra, rc, hmI14, okI14, GI14, bm, aG, ar, au, av, am, fpsI14, orI14, zbaseI14, hiI14, hRI14⟩ KI14 hKI14
 have hRlI14 : R.length ≤ i := by
  have h1 := congrArg List.length hRI14
  rw [List.length_map, List.length_map] at h1
  have h2 := List.length_filter_le p (K.take i)
  rw [List.length_take] at h2
  omega
 refine wp_seq_k (fun cD bp => (wp_region_lit (sw okI14 (o_ltI am av) (fun cE a => ?_))))
 refine wpList_nil (th_n (bp _ _ (wp_seq_k (fun cF bq => ?_))))
 by_cases aH : (i : Int) < ((K.length : Nat) : Int)
 ·refine wp_cond_true ((a.at_).trans (congrArg Value.bool (decide_eq_true aH))) ?_
  refine wp_skip (th_n (bq _ _ (wp_seq_k (fun cG aI => (wp_block (wp_seq_k (fun cH br => (wp_region_lit ?_))))))))
  have ax : i < List.length K := by omega
  obtain ⟨bh27, fh27, bt, bu, bv⟩ := hv (ne_nil_of_lt ax)
  obtain ⟨xh27, ad⟩ : ∃ x, (K)[i]? = some x := ⟨_, List.getElem?_eq_getElem ax⟩
  refine sw a.ok (o_iaV (i := i) (s := 8) bt (a.n au) (a.n am) Tryz.underlying41 (by kernel_rfl) ax) (fun cI y => ?_)
  refine sw y.ok (o_ldA (k := fh27 + i * 8) y.at_ (cs := [.string (bs xh27.d.id), .int .i64 (xh27.d.s), .int .i64 (xh27.d.c), .int .i64 (xh27.d.t), .int .i64 (xh27.d.n), .int .i64 (xh27.d.b), .slice xh27.va xh27.d.V.length xh27.vc, .slice xh27.ma xh27.d.M.length xh27.mc]) (fun j v hv => (Below.cell GI14 bu).trans (bv _ _ ad j v hv)) Tryz.underlying106 rfl (by kernel_rfl)) (fun cJ A => ?_)
  refine sal (cs := #[.string (bs []), .int .i64 0, .int .i64 0, .int .i64 0, .int .i64 0, .int .i64 0, .slice none 0 0, .slice none 0 0]) A.ok rfl (wn _ rfl) rfl (o_al (z := .agg #[.string (bs []), .int .i64 0, .int .i64 0, .int .i64 0, .int .i64 0, .int .i64 0, .slice none 0 0, .slice none 0 0]) (by kernel_rfl)) (fun cK cL aJ F l => ?_)
  have aK : w.heap.size ≤ aJ := by rw [F.eq]; exact GI14.size
  have aM : ∀ k, Value.ownBlock (.slice ra (R.length) rc) = some k → k < aJ := fun k e => by rw [F.eq]; exact ow_in orI14 k e
  have bx := GI14.trans F.gr
  have bz := Nat.le_trans zbaseI14 F.gr.size
  have bA := ow_gr orI14 F.gr
  have bB := fpsI14.tk (tks_gr F.gr)
  refine ssR rfl (wn _ rfl) (o_stR l.at_ (l.n A.at_) F.bk (by kernel_rfl) rfl (by simp [Value.oneCell'])) F.bk (fun ay an aO => ?_)
  have aS : Gr w ay := Below.upd bx aK an
  have bC : base ≤ ay.heap.size := by rw [an.size]; exact bz
  have bD := ow_upd_ne bA an aM
  have bE := bB.tk (tks_upd an F.bk (by decide))
  refine wpList_nil (th_n (br _ _ (wp_seq_k (fun cM bF => (wp_region_lit ?_)))))
  have az := l.n (A.n (y.n (a.n bm)))
  refine sw l.ok (o_mv az) (fun cO o => ?_)
  refine sw o.ok (o_ldR (o.n l.at_) aO Tryz.underlying106 rfl (by kernel_rfl)) (fun cS q => ?_)
  refine sc q.ok rfl (wn _ rfl) rfl (o_fv1 (caps := caps) hf (q.n o.at_) q.at_) (hc _ (List.mem_of_getElem? ad) ay aS) ?_
  rintro _ bG ⟨rfl, ah⟩
  refine ⟨_, rfl, fun cT g => ?_⟩
  have aA := aS.trans ah
  have aT := aO.gr ah
  have aB := Nat.le_trans bC ah.size
  have aU := ow_gr bD ah
  have aV := bE.tk (tks_gr ah)
  refine wpList_nil (th_n (bF _ _ ?_))
  cases ao : (p xh27)
  ·refine wp_cond_false ((g.at_).trans (congrArg Value.bool (ao))) ?_
   refine wp_skip (ib_n (th_n (aI _ _ (wp_region_lit ?_))))
   have bH := g.n (q.n (o.n (l.n (A.n (y.n (a.n am))))))
   refine sw g.ok (o_add (r := ((i + 1 : Nat) : Int)) bH ev_const (by omega) (by omega)) (fun cU U => ?_)
   refine sw U.ok (o_mv U.at_) (fun cV W => ?_)
   refine wpList_nil ?_
   have bI := W.n (U.n (g.n (q.n (o.n az))))
   have bJ := W.n (U.n (g.n (q.n (o.n (l.n (A.n (y.n (a.n aG))))))))
   have bK := W.n (U.n (g.n (q.n (o.n (l.n (A.n (y.n (a.n ar))))))))
   have bL := W.n (U.n (g.n (q.n (o.n (l.n (A.n (y.n (a.n au))))))))
   have bM := W.n (U.n (g.n (q.n (o.n (l.n (A.n (y.n (a.n av))))))))
   exact th_n (hKI14 _ _ _ (by omega) ⟨i + 1, R, ra, rc, rfl, W.ok, aA, bI, bJ, bK, bL, bM, W.at_, aV, aU, aB, by omega, (by rw [hRI14, List.take_add_one, ad, List.filter_append]; simp [ao])⟩)
  ·refine wp_cond_true ((g.at_).trans (congrArg Value.bool (ao))) ?_
   refine wp_seq_k (fun cW bO => (wp_region_lit ?_))
   have aW := g.n (q.n (o.n l.at_))
   refine sw g.ok (o_fa (z := 2) aW Tryz.underlying106 rfl (by kernel_rfl) rfl rfl) (fun cX G => ?_)
   refine sw G.ok (o_ldA (k := 6) (cs := [.slice xh27.va xh27.d.V.length xh27.vc, .slice xh27.ma xh27.d.M.length xh27.mc]) G.at_ (bk_part aT rfl) Tryz.underlying75 rfl (by kernel_rfl)) (fun cY H => ?_)
   refine sw H.ok (o_b0 (cs := #[.slice none 0 0, .slice none 0 0]) Tryz.underlying75 (by kernel_rfl) (by kernel_rfl)) (fun cZ B => ?_)
   refine sc B.ok rfl (wn _ rfl) rfl (o_f2 Tryz.func127 rfl rfl rfl (B.n H.at_) B.at_) (kclone _ xh27.d.V xh27.d.M bG ((hm _ (List.mem_of_getElem? ad)).gr aA) (chkOne_zero (hok _ (List.mem_of_getElem? ad))).2.2.1) ?_
   rintro _ c0 ⟨va1, vc1, ma1, mc1, rfl, hk1, ai⟩
   have hk2 := ow1_le hk1 aB
   refine ⟨_, rfl, fun c1 I => ?_⟩
   have bS := aA.trans ai
   have aC := aT.gr ai
   have bT := Nat.le_trans aB ai.size
   have bU := ow_gr aU ai
   have bV := aV.tk (tks_gr ai)
   refine sw I.ok (o_mv I.at_) (fun c2 C => ?_)
   refine sw C.ok (o_ex C.at_ rfl) (fun c3 D => ?_)
   refine sw D.ok (o_ex (D.n C.at_) rfl) (fun c4 J => ?_)
   have aX := J.n (D.n (C.n (I.n (B.n (H.n (G.n aW))))))
   refine sw J.ok (o_fa (z := 2) aX Tryz.underlying106 rfl (by kernel_rfl) rfl rfl) (fun c5 E => ?_)
   refine ssP (vs := [.slice va1 xh27.d.V.length vc1, .slice ma1 xh27.d.M.length mc1]) (cs' := #[.string (bs xh27.d.id), .int .i64 (xh27.d.s), .int .i64 (xh27.d.c), .int .i64 (xh27.d.t), .int .i64 (xh27.d.n), .int .i64 (xh27.d.b), .slice va1 xh27.d.V.length vc1, .slice ma1 xh27.d.M.length mc1]) (wn _ rfl) E.at_ (E.n (J.n D.at_)) (by kernel_rfl) aC rfl (by simp [Value.oneCell']) rfl (fun aY aj bW => ?_)
   have bX : Gr w aY := Below.upd bS aK aj
   have bY : base ≤ aY.heap.size := by rw [aj.size]; exact bT
   have bZ := ow_upd_ne bU aj aM
   have b0 := bV.tk (tks_upd aj aC (by decide))
   have b1 := ow1_tk hk2 (tks_upd aj aC (by decide))
   refine wpList_nil (th_n (bO _ _ (wp_region_lit ?_)))
   have b2 := E.n (J.n (D.n (C.n (I.n (B.n (H.n (G.n (g.n (q.n (o.n (l.n (A.n (y.n (a.n ar))))))))))))))
   refine sw E.ok (o_mv b2) (fun c6 L => ?_)
   refine sw L.ok (o_ldR (L.n (E.n aX)) bW Tryz.underlying106 rfl (by kernel_rfl)) (fun c7 O => ?_)
   obtain ⟨c8, b3, b4, aD⟩ := info3_of (show (Tryz.prog.info? 106).map (fun i => (i.zero, i.size)) = some (some (.agg #[.string (bs []), .int .i64 0, .int .i64 0, .int .i64 0, .int .i64 0, .int .i64 0, .slice none 0 0, .slice none 0 0]), 8) by kernel_rfl)
   refine sals (cs := #[.string (bs xh27.d.id), .int .i64 (xh27.d.s), .int .i64 (xh27.d.c), .int .i64 (xh27.d.t), .int .i64 (xh27.d.n), .int .i64 (xh27.d.b), .slice va1 xh27.d.V.length vc1, .slice ma1 xh27.d.M.length mc1]) O.ok rfl (wn _ rfl) rfl (o_bs (vs := [(0, .agg #[.string (bs xh27.d.id), .int .i64 (xh27.d.s), .int .i64 (xh27.d.c), .int .i64 (xh27.d.t), .int .i64 (xh27.d.n), .int .i64 (xh27.d.b), .slice va1 xh27.d.V.length vc1, .slice ma1 xh27.d.M.length mc1])]) (by simp [O.at_, ev_const]) Tryz.underlying41 b3 b4 (by rw [aD]; rfl) (by rw [aD]; rfl) (by rw [aD]; kernel_rfl)) (fun c9 da db af S => ?_)
   have b5 := bX.trans af.gr
   have aZ := Nat.le_trans bY af.gr.size
   have ap := ow_gr bZ af.gr
   have b6 := b0.tk (tks_gr af.gr)
   have b7 := ow1_tk b1 (tks_gr af.gr)
   obtain ⟨y1, hy1⟩ : ∃ y1 : VerI, y1 = ⟨xh27.d, va1, vc1, ma1, mc1⟩ := ⟨_, rfl⟩
   obtain ⟨dc, b8, b9, ca, cb⟩ := info_of (show (Tryz.prog.info? 106).map (fun i => (i.zero, i.size, i.bytes)) = some (some (.agg #[.string (bs []), .int .i64 0, .int .i64 0, .int .i64 0, .int .i64 0, .int .i64 0, .slice none 0 0, .slice none 0 0]), 8, 104) by kernel_rfl)
   refine s_app (base := base) (n := R.length) (xs := (flatE encVr R)) (m := 1) (news := encVr y1) S.ok (wn _ rfl) rfl Tryz.underlying41 b8 b9 ca cb rfl (by omega) (S.n (O.n L.at_)) ap S.at_ rfl ((fun j u hu => by rw [add_n]; exact bk_part (by subst hy1; exact af.bk) (k := 0) rfl j u (by subst hy1; exact hu))) (encVr_ok.one y1) (by simp only [maxLen]; omega) (by omega) aZ (fun dd a1 df a2 gg116 X => ?_)
   obtain ⟨a3, a4, rfl, dg⟩ := ow_form a2
   have cc := Gr.grown b5 gg116 (fun k e => Nat.le_trans l2 (ow_lt ap k e))
   have cd := Nat.le_trans aZ gg116.size
   have cf := b6.tk (tks_grown ap gg116 (by decide))
   have cg := ow1_tk b7 (tks_grown ap gg116 (by decide))
   have ch : a1.ownsRow base 106 8 (.slice a3 ((R.length + 1)) a4) ((R.length + 1)) ((flatE encVr (R ++ [y1]))) := by have h := a2; rw [← flatE_one (enc := encVr) y1, ← flatE_app] at h; exact h
   have hps124 : OwnsVr base a1 (R ++ [y1]) := cf.snoc (by rw [hy1]; exact cg)
   refine sw X.ok (o_as X.at_) (fun dh Y => ?_)
   refine wpList_nil (ib_n (th_n (aI _ _ (wp_region_lit ?_))))
   have ci := Y.n (X.n (S.n (O.n (L.n (E.n (J.n (D.n (C.n (I.n (B.n (H.n (G.n (g.n (q.n (o.n (l.n (A.n (y.n (a.n am)))))))))))))))))))
   refine sw Y.ok (o_add (r := ((i + 1 : Nat) : Int)) ci ev_const (by omega) (by omega)) (fun di Z => ?_)
   refine sw Z.ok (o_mv Z.at_) (fun dj aa => ?_)
   refine wpList_nil ?_
   have cj := aa.n (Z.n (Y.n (X.n (S.n (O.n (L.n (E.n (J.n (D.n (C.n (I.n (B.n (H.n (G.n (g.n (q.n (o.n az)))))))))))))))))
   have ck := aa.n (Z.n (Y.n (X.n (S.n (O.n (L.n (E.n (J.n (D.n (C.n (I.n (B.n (H.n (G.n (g.n (q.n (o.n (l.n (A.n (y.n (a.n aG)))))))))))))))))))))
   have cl := aa.n (Z.n (Y.n (X.n (S.n (O.n (L.n (E.n (J.n (D.n (C.n (I.n (B.n (H.n (G.n (g.n (q.n (o.n (l.n (A.n (y.n (a.n au)))))))))))))))))))))
   have cm := aa.n (Z.n (Y.n (X.n (S.n (O.n (L.n (E.n (J.n (D.n (C.n (I.n (B.n (H.n (G.n (g.n (q.n (o.n (l.n (A.n (y.n (a.n av)))))))))))))))))))))
   exact th_n (hKI14 _ _ _ (by omega) ⟨i + 1, R ++ [y1], a3, a4, rfl, aa.ok, cc, cj, ck, (by simpa using (aa.n (Z.n Y.at_))), cl, cm, aa.at_, hps124, (by simpa using ch), cd, by omega, (by rw [List.map_append, hRI14, List.take_add_one, ad, List.filter_append, List.map_append]; simp [ao, hy1])⟩)
 ·refine wp_cond_false ((a.at_).trans (congrArg Value.bool (decide_eq_false aH))) ?_
  refine wp_exit (th_x (th_x (ib_x (th_n (bg _ _ (wp_seq_k (fun dk cn => (wp_region_lit (sw a.ok (o_mv (a.n ar)) (fun dl a6 => ?_))))))))))
  refine sw a6.ok (o_as a6.at_) (fun dm a7 => ?_)
  refine wpList_nil (th_n (cn _ _ (wp_ret (ret1 a7.ok rfl (a7.at_) ⟨_, rfl, ⟨R, by rw [hRI14, List.take_of_length_le (by omega)], z1 ▸ orI14, z1 ▸ fpsI14⟩, GI14⟩))))
theorem only_any (u : Value) (L : List VerD) (f : FuncId) (caps : List Value) (q : VerD → Bool) (base : Nat) (w : World) (hf : FnOk Tryz.prog f) (hL : OkS L) (hu : ResV base w u L)
    (hc : ∀ x : VerI, x.d ∈ L → ∀ w1, Gr w w1 → Calls Tryz.prog f (.agg #[.string (bs x.d.id), .int .i64 (x.d.s), .int .i64 (x.d.c), .int .i64 (x.d.t), .int .i64 (x.d.n), .int .i64 (x.d.b), .slice x.va x.d.V.length x.vc, .slice x.ma x.d.M.length x.mc] :: caps).toArray w1 fun e w2 => e = .returned (.bool (q x.d)) ∧ Gr w1 w2) :
    Calls Tryz.prog 71 #[u, .func (.func f) #[] caps.toArray] w fun e w' => ∃ a n c, e = .returned (.slice a n c) ∧ ResV w.heap.size w' (.slice a n c) (L.filter q) ∧ n = (L.filter q).length ∧ Gr w w' := by
  obtain ⟨K, a, c, rfl, hK, -, -, hr, hm⟩ := hu.rd
  have hl : K.length ≤ 60 := by have := hL.len; rw [← hK, List.length_map] at this; exact this
  refine (only_k K a c f caps (fun x => q x.d) hf (by omega) (fun x hx => hL.one _ (by rw [← hK]; exact List.mem_map_of_mem hx)) w hr hm (fun x hx w1 g => hc x (by rw [← hK]; exact List.mem_map_of_mem hx) w1 g)).mono ?_
  rintro e w' ⟨v, rfl, h, g⟩
  have e1 : (K.filter fun x => q x.d).map VerI.d = L.filter q := by rw [← hK, List.filter_map]; rfl
  rw [e1] at h
  have h' := h
  obtain ⟨R, h1, h2, h3⟩ := h'
  obtain ⟨a, c, rfl, -⟩ := ow_form h2
  exact ⟨a, _, c, rfl, h, by rw [← h1, List.length_map], g⟩
theorem shelf1_any (x : VerI) (w : World) :
  Calls Tryz.prog 106 #[.agg #[.string (bs x.d.id), .int .i64 (x.d.s), .int .i64 (x.d.c), .int .i64 (x.d.t), .int .i64 (x.d.n), .int .i64 (x.d.b), .slice x.va x.d.V.length x.vc, .slice x.ma x.d.M.length x.mc]] w fun e w' => e = .returned (.bool true) ∧ Gr w w' := by
 refine enter (N := 3) Tryz.func106 rfl rfl rfl (fun l ok0 a => ?_)
 have o : l.eval (.tmp 0) = .agg #[.string (bs x.d.id), .int .i64 (x.d.s), .int .i64 (x.d.c), .int .i64 (x.d.t), .int .i64 (x.d.n), .int .i64 (x.d.b), .slice x.va x.d.V.length x.vc, .slice x.ma x.d.M.length x.mc] := a 0 _ rfl
 clear a
 have g := Gr.refl w
 refine wp_seq_k (fun B q => (wp_region_lit (sal (cs := #[.string (bs x.d.id), .int .i64 (x.d.s), .int .i64 (x.d.c), .int .i64 (x.d.t), .int .i64 (x.d.n), .int .i64 (x.d.b), .slice x.va x.d.V.length x.vc, .slice x.ma x.d.M.length x.mc]) ok0 rfl (wn _ rfl) rfl (o_box o) (fun C D r h u => ?_))))
 have E : w.heap.size ≤ r := by rw [h.eq]; exact g.size
 have y := g.trans h.gr
 refine sw u.ok (o_as ev_const) (fun F z => ?_)
 refine wpList_nil (th_n (q _ _ (wp_seq_k (fun G A => (wp_region_lit (sw z.ok (o_as ev_const) (fun H j => ?_)))))))
 refine wpList_nil (th_n (A _ _ (wp_ret (ret1 j.ok rfl (j.at_) ⟨rfl, y⟩))))
theorem ownDots_k (b me made stamp : Nat) (fa sa la : Option Addr) (fn fc sn sc ln lc : Nat) (hme : me < 5) (hmd : made ≤ 1000) (w : World) (hb : Bk w b #[.int .i64 (me : Int), .int .i64 (made : Int), .int .i64 (stamp : Int), .slice fa fn fc, .slice sa sn sc, .slice la ln lc] 125) :
  Calls Tryz.prog 107 #[.pointer (some ⟨b, 0, none⟩)] w fun e w' => ∃ (a : Option Addr) (c : Nat) (a' : Option Addr) (c' : Nat), e = .returned (.agg #[.slice a (ints (ownV me made)).length c, .slice a' 0 c']) ∧ KnR w' (.agg #[.slice a (ints (ownV me made)).length c, .slice a' 0 c']) (ints (ownV me made)) [] ∧ Gr w w' := by
 refine enter (N := 28) Tryz.func107 rfl rfl rfl (fun a0 ok0 U => ?_)
 have V : a0.eval (.tmp 0) = .pointer (some ⟨b, 0, none⟩) := U 0 _ rfl
 clear U
 have W := Gr.refl w
 refine wp_seq_k (fun K1 an => (wp_region_lit (sal (cs := #[.slice none 0 0, .slice none 0 0]) ok0 rfl (wn _ rfl) rfl (o_al (z := .agg #[.slice none 0 0, .slice none 0 0]) (by kernel_rfl)) (fun a6 w4 X j t => ?_))))
 have Y : w.heap.size ≤ X := by rw [j.eq]; exact W.size
 have J := W.trans j.gr
 have K := hb.gr j.gr
 refine wpList_nil (th_n (an _ _ (wp_seq_k (fun a8 ao => (wp_seq_k (fun a9 ap => (wp_region_lit (sw t.ok (o_mv (t.n V)) (fun ba u => ?_)))))))))
 refine sw u.ok (o_nc u.at_) (fun bb y => ?_)
 refine sw y.ok (o_fa (z := 1) y.at_ Tryz.underlying125 rfl (by kernel_rfl) rfl rfl) (fun bc A => ?_)
 refine sw A.ok (o_ld A.at_ (Tryz.isAgg3 _) (K.cell _ rfl)) (fun bd B => ?_)
 refine sw B.ok (o_eqI B.at_ ev_const) (fun bf l => ?_)
 refine wpList_nil (th_n (ap _ _ ?_))
 by_cases Z : (made : Int) = 0
 ·refine wp_cond_true ((l.at_).trans (congrArg Value.bool (decide_eq_true Z))) ?_
  refine wp_seq_k (fun bg aq => (wp_region_lit (sw l.ok (o_b0 (cs := #[.slice none 0 0, .slice none 0 0]) Tryz.underlying75 (by kernel_rfl) (by kernel_rfl)) (fun bh M => ?_))))
  have aa := M.n (l.n (B.n (A.n (y.n (u.n t.at_)))))
  refine ssR rfl (wn _ rfl) (o_stR aa M.at_ j.bk (by kernel_rfl) rfl (by simp [Value.oneCell'])) j.bk (fun ar au av => ?_)
  have ax : Gr w ar := Below.upd J Y au
  refine wpList_nil (th_n (aq _ _ (wp_ret (th_r (ret1 M.ok rfl (⟨_, _, aa, ld_row av Tryz.underlying75 rfl (by kernel_rfl)⟩) ⟨none, 0, none, 0, by unfold ownV; rw [if_pos (by omega)]; rfl, by unfold ownV; rw [if_pos (by omega)]; exact knR_nil _, ax⟩)))))
 ·refine wp_cond_false ((l.at_).trans (congrArg Value.bool (decide_eq_false Z))) ?_
  refine wp_skip (th_n (ao _ _ (wp_seq_k (fun bi ay => (wp_region_lit ?_)))))
  have ab := l.n (B.n (A.n (y.n (u.n (t.n V)))))
  refine sw l.ok (o_mv ab) (fun bj E => ?_)
  refine sw E.ok (o_nc E.at_) (fun bl F => ?_)
  refine sw F.ok (o_fa (z := 1) F.at_ Tryz.underlying125 rfl (by kernel_rfl) rfl rfl) (fun bm G => ?_)
  refine sw G.ok (o_ld G.at_ (Tryz.isAgg3 _) (K.cell _ rfl)) (fun bn H => ?_)
  refine sw H.ok (o_add (r := ((me + 1 : Nat) : Int)) H.at_ ev_const (by omega) (by omega)) (fun bo C => ?_)
  skip
  refine sals (cs := zv (me + 1)) C.ok rfl (wn _ rfl) rfl (o_mkI (n := me + 1) (by omega) ((C.at_).trans (by simp)) ((C.at_).trans (by simp))) (fun bp bq g o I => ?_)
  have ac : X < g := by rw [o.eq]; exact j.bk.lt
  have az : w.heap.size ≤ g := by rw [o.eq]; exact J.size
  have aA := J.trans o.gr
  have ad := K.gr o.gr
  have aB := j.bk.gr o.gr
  refine sw I.ok (o_as I.at_) (fun br D => ?_)
  refine wpList_nil (th_n (ay _ _ (wp_seq_k (fun bt aC => (reg_start (N := 28) (m := 10) (by kernel_rfl) (fun aD => ?_))))))
  have aE := aD.snoc (n' := 1) rfl (fun vJ _ => vJ = .slice (some ⟨g, 0, none⟩) (me + 1) (me + 1)) rfl (fun _ _ _ _ h => h) (fun aS wS pS => by
    exact Does.val (wn _ rfl) (o_mv ((pS.old 3 rfl).trans D.at_)) (Gr.refl _) rfl rfl)
  have af := D.n (I.n (C.n (H.n (G.n (F.n (E.n ab))))))
  have aF := aE.snoc (n' := 2) rfl (fun vJ _ => vJ = .pointer (some ⟨b, 0, none⟩)) rfl (fun _ _ _ _ h => h) (fun aS wS pS => by
    exact Does.val (wn _ rfl) (o_mv ((pS.old 0 rfl).trans af)) (Gr.refl _) rfl rfl)
  have aG := aF.snoc (n' := 3) rfl (fun vJ _ => vJ = .pointer (some ⟨b, 0, none⟩)) rfl (fun _ _ _ _ h => h) (fun aS wS pS => by
    have eR44_1 : aS.eval (.tmp 17) = .pointer (some ⟨b, 0, none⟩) := pS.pre 1 rfl
    exact Does.val (wn _ rfl) (o_nc (eR44_1)) (Gr.refl _) rfl rfl)
  have aH := aG.snoc (n' := 4) rfl (fun vJ _ => vJ = .pointer (some ⟨b, 0, none⟩)) rfl (fun _ _ _ _ h => h) (fun aS wS pS => by
    have eR44_2 : aS.eval (.tmp 18) = .pointer (some ⟨b, 0, none⟩) := pS.pre 2 rfl
    exact Does.val (wn _ rfl) (o_fa (z := 1) (eR44_2) Tryz.underlying125 rfl (by kernel_rfl) rfl rfl) (Gr.refl _) rfl rfl)
  have aI := aH.snoc (n' := 5) rfl (fun vJ _ => vJ = .int .i64 (me : Int)) rfl (fun _ _ _ _ h => h) (fun aS wS pS => by
    have eR44_3 : aS.eval (.tmp 19) = .pointer (some ⟨b, 0, none⟩) := pS.pre 3 rfl
    exact Does.val (wn _ rfl) (o_ld (eR44_3) (Tryz.isAgg3 _) ((Bk.gr ad (gr_drew pS.gr)).cell _ rfl)) (Gr.refl _) rfl rfl)
  have aJ := aI.snoc (n' := 6) rfl (fun vJ _ => vJ = .pointer (some ⟨b, 0, none⟩)) rfl (fun _ _ _ _ h => h) (fun aS wS pS => by
    exact Does.val (wn _ rfl) (o_mv ((pS.old 0 rfl).trans af)) (Gr.refl _) rfl rfl)
  have aK := aJ.snoc (n' := 7) rfl (fun vJ _ => vJ = .pointer (some ⟨b, 0, none⟩)) rfl (fun _ _ _ _ h => h) (fun aS wS pS => by
    have eR44_5 : aS.eval (.tmp 21) = .pointer (some ⟨b, 0, none⟩) := pS.pre 5 rfl
    exact Does.val (wn _ rfl) (o_nc (eR44_5)) (Gr.refl _) rfl rfl)
  have aL := aK.snoc (n' := 8) rfl (fun vJ _ => vJ = .pointer (some ⟨b, 1, none⟩)) rfl (fun _ _ _ _ h => h) (fun aS wS pS => by
    have eR44_6 : aS.eval (.tmp 22) = .pointer (some ⟨b, 0, none⟩) := pS.pre 6 rfl
    exact Does.val (wn _ rfl) (o_fa (z := 1) (eR44_6) Tryz.underlying125 rfl (by kernel_rfl) rfl rfl) (Gr.refl _) rfl rfl)
  have aM := aL.snoc (n' := 9) rfl (fun vJ _ => vJ = .int .i64 (made : Int)) rfl (fun _ _ _ _ h => h) (fun aS wS pS => by
    have eR44_7 : aS.eval (.tmp 23) = .pointer (some ⟨b, 1, none⟩) := pS.pre 7 rfl
    exact Does.val (wn _ rfl) (o_ld (eR44_7) (Tryz.isAgg3 _) ((Bk.gr ad (gr_drew pS.gr)).cell _ rfl)) (Gr.refl _) rfl rfl)
  have aO := aM.snoc (n' := 10) rfl (fun vJ _ => vJ = .pointer (some ⟨g, 0 + me * 1, none⟩)) rfl (fun _ _ _ _ h => h) (fun aS wS pS => by
    have eR44_0 : aS.eval (.tmp 16) = .slice (some ⟨g, 0, none⟩) (me + 1) (me + 1) := pS.pre 0 rfl
    have eR44_4 : aS.eval (.tmp 20) = .int .i64 (me : Int) := pS.pre 4 rfl
    exact Does.val (wn _ rfl) (o_ia (i := me) (s := 1) (eR44_0) (eR44_4) Tryz.underlying45 (by kernel_rfl) (by omega)) (Gr.refl _) rfl rfl)
  refine aO.run (k := 1) (L := #[true, true, true, true, true, true, true, true, true, true, false]) (by kernel_rfl) (by kernel_rfl) (by kernel_rfl) D.ok (by kernel_rfl) (by kernel_rfl) (fun ap47 bu q => ?_)
  have O := gr_drew q.gr
  have aT := aA.trans O
  have aU := aB.gr O
  have ag := o.bk.gr O
  have ep47_9 : ap47.eval (.tmp 25) = .pointer (some ⟨g, 0 + me * 1, none⟩) := q.js 9 rfl
  have ep47_8 : ap47.eval (.tmp 24) = .int .i64 (made : Int) := q.js 8 rfl
  refine t_stC (i := 10) (by kernel_rfl) rfl rfl (wn _ rfl) (o_st ep47_9 ep47_8 ag (zv_at (n := me + 1) (k := 0 + me * 1) (by omega)) (by kernel_rfl) rfl) ag (fun ah ai aV => ?_)
  have aW : Gr w ah := Below.upd aT az ai
  have aj := aU.upd ai (Nat.ne_of_lt ac)
  have aX : Bk ah g (ovA me made) 3 := (by have h := aV; rw [show 0 + me * 1 = me by omega, zv_set] at h; exact h)
  refine wpAny_done (by kernel_rfl) ?_ _
  refine th_n (aC _ _ (wp_seq_k (fun bv aY => (wp_region_lit (sw q.ok (o_mv ((q.old 3 rfl).trans D.at_)) (fun bx S => ?_))))))
  refine sw S.ok (o_bd (cells := #[.slice (some ⟨g, 0, none⟩) (me + 1) (me + 1), .slice none 0 0]) (vs := [(0, .slice (some ⟨g, 0, none⟩) (me + 1) (me + 1))]) (by simp [S.at_, ev_const]) (by kernel_rfl)) (fun bz T => ?_)
  have ak := T.n (S.n ((q.old 2 rfl).trans (D.n (I.n (C.n (H.n (G.n (F.n (E.n (l.n (B.n (A.n (y.n (u.n t.at_))))))))))))))
  refine ssR rfl (wn _ rfl) (o_stR ak T.at_ aj (by kernel_rfl) rfl (by simp [Value.oneCell'])) aj (fun aZ al a1 => ?_)
  have a2 : Gr w aZ := Below.upd aW Y al
  have a3 := aX.upd al (Nat.ne_of_gt ac)
  refine wpList_nil (th_n (aY _ _ (wp_ret (ret1 T.ok rfl (⟨_, _, ak, ld_row a1 Tryz.underlying75 rfl (by kernel_rfl)⟩) ⟨some ⟨g, 0, none⟩, me + 1, none, 0, by unfold ownV; rw [if_neg (by omega)]; simp [ints], by unfold ownV; rw [if_neg (by omega)]; have h := r1_bk a3 rfl; simp only [ints, List.length_map, List.length_append, List.length_replicate, List.length_cons, List.length_nil] at h; exact ⟨_, _, rfl, by simpa [ints] using h, Rd2.nil _, ⟨rfl, by simp [flat], .inl ⟨rfl, rfl⟩⟩⟩, a2⟩))))
end Go.Proofs.YtglbnggkkjhokaaGreat
/- Site: Filter, Shelf, Made, Parts; New, Ask. -/
namespace Rm
open Go Go.RowKit Gx
end Rm
namespace Go.Proofs.YtglbnggkkjhokaaGreat
open Go.RowKit Rm Gx
structure SiOk (S : SiD) : Prop where
  me : S.me < 5
  made : S.made ≤ 1000
  st : S.stamp ≤ 1000000
  ok : OkS S.L
  few : S.P.length ≤ 29
def sees (S : SiD) (t n s c : Nat) : Bool := ownD S.me S.made s c || hasP S.P t n s c
def Sees (F : List PtX) (S : SiD) : Prop := ∀ t n s c, t < 16 → n < 32 → inR s c → hasP F t n s c = sees S t n s c
theorem PL.gr {base : Nat} {w w' : World} {v : Value} {F : List PtX} (h : PL base w v F) (g : Gr w w') : PL base w' v F := h.tkw (tkw_gr g)
theorem ResV.gr0 {base : Nat} {w w' : World} {v : Value} {L : List VerD} (h : ResV base w v L) (g : Gr w w') : ResV base w' v L := h.tkw (tkw_gr g)
theorem FO.gr0 {base n : Nat} {w w' : World} {v : Value} {T : Nat → Nat} (h : FO base n w v T) (g : Gr w w') : FO base n w' v T := h.tk (tk_gr g)
theorem filt_all {α : Type} (L : List α) : (L.filter fun _ => true) = L := List.filter_eq_self.2 (fun _ _ => rfl)
theorem psjoin (K L : List PtX) (va vb : Option Addr) (vc vd : Nat) (hl : K.length + L.length ≤ 30) (hc : K.length ≤ vc) (hc2 : L.length ≤ vd) (hn : va = none → vc = 0) (hn2 : vb = none → vd = 0) (w : World) (hv : RdA encP 3 w va K) (hv2 : RdA encP 3 w vb L) (hm : MeansP w K) (hm2 : MeansP w L) :
  Calls Tryz.prog 100 #[.slice va K.length vc, .slice vb L.length vd] w fun e w' => ∃ (F : List PtX) (a : Option Addr) (c : Nat), e = .returned (.tuple #[.slice a F.length c, .int .i64 0]) ∧ F.length ≤ K.length + L.length ∧ EqP F (K ++ L) ∧ FewP F ∧ PL w.heap.size w' (.slice a F.length c) F ∧ Gr w w' := by
 refine (pjoin_ok K L va vb vc vd (by omega) (by omega) hc hc2 hn hn2 w hv hv2 hm hm2).mono ?_
 rintro e w' ⟨R, hR, hres, g⟩
 have hRl : R.length = K.length + L.length := by have := congrArg List.length hR; simpa using this
 have hF := fewP_len R
 rcases hres with ⟨h1, v, rfl, h2, h3⟩ | ⟨h1, -⟩
 ·have hOk : ∀ y ∈ R, OkT y.T := fun y hy => by
   have : y.m ∈ (K ++ L).map (nar fullT) := hR ▸ List.mem_map_of_mem hy
   obtain ⟨x, hx, e⟩ := List.mem_map.1 this
   have hT : OkT x.T := (List.mem_append.1 hx).elim (fun q => (hm x q).fs.okT) (fun q => (hm2 x q).fs.okT)
   have e1 : y.T = fun t => x.T t &&& fullT t := (congrArg Prod.fst e).symm
   rw [e1]
   exact okT_and hT
  obtain ⟨a, c, rfl, hac⟩ := ow_form h2
  exact ⟨fewP R, a, c, rfl, by omega, (fewP_has hOk).trans (full_has hR), fewP_few R, ⟨h2, h3⟩, g⟩
 ·omega
theorem own_join (S : SiD) (hS : SiOk S) (b : Nat) (fa va ma la : Option Addr) (fn fc vc mc lc : Nat) (t : TypeId) (w : World) (hb : Bk w b #[.slice fa fn fc, .slice va (ints (ownV S.me S.made)).length vc, .slice ma 0 mc] t) (hF : FS w (.slice fa fn fc) fullT)
    (hk : KnR w (.agg #[.slice va (ints (ownV S.me S.made)).length vc, .slice ma 0 mc]) (ints (ownV S.me S.made)) []) (hP : PL 0 w (.slice la S.P.length lc) S.P) :
    Calls Tryz.prog 100 #[.slice (some ⟨b, 0, none⟩) 1 1, .slice la S.P.length lc] w fun e w' => ∃ (F : List PtX) (a : Option Addr) (c : Nat), e = .returned (.tuple #[.slice a F.length c, .int .i64 0]) ∧ F.length ≤ S.P.length + 1 ∧ Sees F S ∧ FewP F ∧ PL 0 w' (.slice a F.length c) F ∧ Gr w w' := by
  obtain ⟨q1, q2⟩ := ownV_form hS.me hS.made
  obtain ⟨x, hx⟩ : ∃ x : PtX, x = ⟨fa, fn, fc, va, (ints (ownV S.me S.made)).length, vc, ma, 0, mc, fullT, ownD S.me S.made⟩ := ⟨_, rfl⟩
  have hm : MeanP w x := by
    subst hx
    refine ⟨hF, ?_, ?_⟩
    · show KnR w _ (ints (formV (ownD S.me S.made))) (pairs (formM (ownD S.me S.made)))
      rw [q1, q2]
      exact hk
    · show (formM (ownD S.me S.made)).length ≤ 60
      rw [q2]; simp
  have hr : RdA encP 3 w (some ⟨b, 0, none⟩) [x] := fun _ => ⟨b, 0, rfl, hb.lt, fun i y hy j u hu => by
    match i, hy with
    | 0, hy =>
      simp at hy
      subst hy
      rw [hx] at hu
      have := bk_part hb (k := 0) (l := [.slice fa fn fc, .slice va (ints (ownV S.me S.made)).length vc, .slice ma 0 mc]) rfl j u hu
      simpa using this
    | i + 1, hy => simp at hy⟩
  obtain ⟨a2, c2, e2, hc2, hn2, hr2, hm2⟩ := hP.rd
  injection e2 with e2 _ e3
  subst e2 e3
  refine (psjoin [x] S.P (some ⟨b, 0, none⟩) la 1 lc (by have := hS.few; simp; omega) (by simp) hc2 (fun q => by cases q) hn2 w hr hr2 (fun y hy => by rw [List.mem_singleton.1 hy]; exact hm) hm2).mono ?_
  rintro e w' ⟨F, a, c, rfl, h1, h2, h3, h4, g⟩
  refine ⟨F, a, c, rfl, by simpa [Nat.add_comm] using h1, fun t n s k ht hn hi => ?_, h3, h4.any, g⟩
  rw [h2 t n s k ht hn hi, hasP_app]
  have hT : (fullT t).testBit n = true := by
    unfold fullT
    rw [show (4294967295 : Nat) = 2 ^ 32 - 1 from rfl, Nat.testBit_two_pow_sub_one]
    simpa using hn
  have e1 : hasP [x] t n s k = ownD S.me S.made s k := by
    unfold hasP
    rw [List.any_cons, List.any_nil, Bool.or_false, hx]
    show ((fullT t).testBit n && ownD S.me S.made s k) = _
    rw [hT, Bool.true_and]
  unfold sees
  rw [e1]
theorem sshelf_any (b : Nat) (S : SiD) (hOk : OkS S.L) (w : World) (hS : SiteAt w b S) :
  Calls Tryz.prog 45 #[.pointer (some ⟨b, 0, none⟩)] w fun e w' => ∃ a n c, e = .returned (.slice a n c) ∧ ResV 0 w' (.slice a n c) S.L ∧ n = S.L.length ∧ Gr w w' := by
 refine enter (N := 8) Tryz.func45 rfl rfl rfl (fun y ok0 g => ?_)
 have A : y.eval (.tmp 0) = .pointer (some ⟨b, 0, none⟩) := g 0 _ rfl
 clear g
 have h := Gr.refl w
 obtain ⟨fa, fn, fc, sa, sn, sq, la, lc, hb, hF, hR, hP⟩ := hS
 refine wp_seq_k (fun G B => (wp_region_lit (sw ok0 (o_as ev_const) (fun H j => ?_))))
 refine wpList_nil (th_n (B _ _ (wp_seq_k (fun I C => (wp_region_lit (sw j.ok (o_mv (j.n A)) (fun J l => ?_)))))))
 refine sw l.ok (o_nc l.at_) (fun K o => ?_)
 refine sw o.ok (o_fa (z := 1) o.at_ Tryz.underlying125 rfl (by kernel_rfl) rfl rfl) (fun M q => ?_)
 refine sw q.ok (o_ld q.at_ (Tryz.isAgg41 _) (hb.cell _ rfl)) (fun O r => ?_)
 refine sc r.ok rfl (wn _ rfl) rfl (o_f2 Tryz.func71 rfl rfl rfl r.at_ ev_func) (only_any _ S.L 106 [] (fun _ => true) 0 w ⟨_, Tryz.func106, rfl, rfl⟩ hOk (hR.gr0 h) (fun x _ D T => shelf1_any x D)) ?_
 rintro _ U ⟨ra, rn, rc, rfl, hr, hn, E⟩
 refine ⟨_, rfl, fun V t => ?_⟩
 have F := h.trans E
 refine sw t.ok (o_as t.at_) (fun W u => ?_)
 refine wpList_nil (th_n (C _ _ (wp_ret (ret1 u.ok rfl (u.at_) ⟨ra, rn, rc, rfl, by rw [filt_all] at hr; exact hr.any, by rw [filt_all] at hn; exact hn, F⟩))))
theorem smade_any (b : Nat) (S : SiD) (w : World) (hS : SiteAt w b S) :
  Calls Tryz.prog 44 #[.pointer (some ⟨b, 0, none⟩)] w fun e w' => e = .returned (.tuple #[.int .i64 (S.made : Int), .int .i64 (S.stamp : Int)]) ∧ Gr w w' := by
 refine enter (N := 12) Tryz.func44 rfl rfl rfl (fun n ok0 j => ?_)
 have l : n.eval (.tmp 0) = .pointer (some ⟨b, 0, none⟩) := j 0 _ rfl
 clear j
 have o := Gr.refl w
 obtain ⟨fa, fn, fc, sa, sn, sq, la, lc, hb, hF, hR, hP⟩ := hS
 refine wp_seq_k (fun K q => (wp_region_lit (sw ok0 (o_as ev_const) (fun M c => ?_))))
 refine sw c.ok (o_as ev_const) (fun O g => ?_)
 refine wpList_nil (th_n (q _ _ (wp_seq_k (fun T r => (reg_start (N := 12) (m := 10) (by kernel_rfl) (fun t => ?_))))))
 have u := t.snoc (n' := 1) rfl (fun vJ _ => vJ = .pointer (some ⟨b, 0, none⟩)) rfl (fun _ _ _ _ h => h) (fun aS wS pS => by
   exact Does.val (wn _ rfl) (o_mv ((pS.old 0 rfl).trans (g.n (c.n l)))) (Gr.refl _) rfl rfl)
 have y := u.snoc (n' := 2) rfl (fun vJ _ => vJ = .pointer (some ⟨b, 0, none⟩)) rfl (fun _ _ _ _ h => h) (fun aS wS pS => by
   have eR7_0 : aS.eval (.tmp 4) = .pointer (some ⟨b, 0, none⟩) := pS.pre 0 rfl
   exact Does.val (wn _ rfl) (o_nc (eR7_0)) (Gr.refl _) rfl rfl)
 have A := y.snoc (n' := 3) rfl (fun vJ _ => vJ = .pointer (some ⟨b, 1, none⟩)) rfl (fun _ _ _ _ h => h) (fun aS wS pS => by
   have eR7_1 : aS.eval (.tmp 5) = .pointer (some ⟨b, 0, none⟩) := pS.pre 1 rfl
   exact Does.val (wn _ rfl) (o_fa (z := 1) (eR7_1) Tryz.underlying125 rfl (by kernel_rfl) rfl rfl) (Gr.refl _) rfl rfl)
 have B := A.snoc (n' := 4) rfl (fun vJ _ => vJ = .int .i64 ((S.made : Nat) : Int)) rfl (fun _ _ _ _ h => h) (fun aS wS pS => by
   have eR7_2 : aS.eval (.tmp 6) = .pointer (some ⟨b, 1, none⟩) := pS.pre 2 rfl
   exact Does.val (wn _ rfl) (o_ld (eR7_2) (Tryz.isAgg3 _) ((Bk.gr hb (gr_drew pS.gr)).cell _ rfl)) (Gr.refl _) rfl rfl)
 have C := B.snoc (n' := 5) rfl (fun vJ _ => vJ = .pointer (some ⟨b, 0, none⟩)) rfl (fun _ _ _ _ h => h) (fun aS wS pS => by
   exact Does.val (wn _ rfl) (o_mv ((pS.old 0 rfl).trans (g.n (c.n l)))) (Gr.refl _) rfl rfl)
 have D := C.snoc (n' := 6) rfl (fun vJ _ => vJ = .pointer (some ⟨b, 0, none⟩)) rfl (fun _ _ _ _ h => h) (fun aS wS pS => by
   have eR7_4 : aS.eval (.tmp 8) = .pointer (some ⟨b, 0, none⟩) := pS.pre 4 rfl
   exact Does.val (wn _ rfl) (o_nc (eR7_4)) (Gr.refl _) rfl rfl)
 have E := D.snoc (n' := 7) rfl (fun vJ _ => vJ = .pointer (some ⟨b, 2, none⟩)) rfl (fun _ _ _ _ h => h) (fun aS wS pS => by
   have eR7_5 : aS.eval (.tmp 9) = .pointer (some ⟨b, 0, none⟩) := pS.pre 5 rfl
   exact Does.val (wn _ rfl) (o_fa (z := 1) (eR7_5) Tryz.underlying125 rfl (by kernel_rfl) rfl rfl) (Gr.refl _) rfl rfl)
 have F := E.snoc (n' := 8) rfl (fun vJ _ => vJ = .int .i64 ((S.stamp : Nat) : Int)) rfl (fun _ _ _ _ h => h) (fun aS wS pS => by
   have eR7_6 : aS.eval (.tmp 10) = .pointer (some ⟨b, 2, none⟩) := pS.pre 6 rfl
   exact Does.val (wn _ rfl) (o_ld (eR7_6) (Tryz.isAgg3 _) ((Bk.gr hb (gr_drew pS.gr)).cell _ rfl)) (Gr.refl _) rfl rfl)
 have G := F.snoc (n' := 9) rfl (fun vJ _ => vJ = .int .i64 ((S.made : Nat) : Int)) rfl (fun _ _ _ _ h => h) (fun aS wS pS => by
   have eR7_3 : aS.eval (.tmp 7) = .int .i64 ((S.made : Nat) : Int) := pS.pre 3 rfl
   exact Does.val (wn _ rfl) (o_as (eR7_3)) (Gr.refl _) rfl rfl)
 have H := G.snoc (n' := 10) rfl (fun vJ _ => vJ = .int .i64 ((S.stamp : Nat) : Int)) rfl (fun _ _ _ _ h => h) (fun aS wS pS => by
   have eR7_7 : aS.eval (.tmp 11) = .int .i64 ((S.stamp : Nat) : Int) := pS.pre 7 rfl
   exact Does.val (wn _ rfl) (o_as (eR7_7)) (Gr.refl _) rfl rfl)
 refine H.run (k := 0) (L := #[true, true, true, true, true, true, true, true, true, true]) (by kernel_rfl) (by kernel_rfl) (by kernel_rfl) g.ok (by kernel_rfl) (by kernel_rfl) (fun ap9 U a => ?_)
 have I := gr_drew a.gr
 have J := o.trans I
 refine wpAny_done (by kernel_rfl) ?_ _
 refine th_n (r _ _ (wp_ret ?_))
 have ep9_8 : ap9.eval (.tmp 2) = .int .i64 ((S.made : Nat) : Int) := a.js 8 rfl
 have ep9_9 : ap9.eval (.tmp 3) = .int .i64 ((S.stamp : Nat) : Int) := a.js 9 rfl
 exact ret2 a.ok rfl (ep9_8) (ep9_9) ⟨rfl, J⟩
theorem sparts_any (b : Nat) (S : SiD) (hO : SiOk S) (w : World) (hS : SiteAt w b S) :
  Calls Tryz.prog 47 #[.pointer (some ⟨b, 0, none⟩)] w fun e w' => ∃ (F : List PtX) (a : Option Addr) (c : Nat), e = .returned (.slice a F.length c) ∧ F.length ≤ S.P.length + 1 ∧ Sees F S ∧ FewP F ∧ PL 0 w' (.slice a F.length c) F ∧ Gr w w' := by
 refine enter (N := 21) Tryz.func47 rfl rfl rfl (fun X ok0 J => ?_)
 have K : X.eval (.tmp 0) = .pointer (some ⟨b, 0, none⟩) := J 0 _ rfl
 clear J
 have Y := Gr.refl w
 obtain ⟨fa, fn, fc, sa, sn, sq, la, lc, hb, hF, hR, hP⟩ := hS
 refine wp_seq_k (fun K3 Z => (wp_region_lit (sw ok0 (o_as ev_const) (fun ay n => ?_))))
 refine wpList_nil (th_n (Z _ _ (wp_seq_k (fun K5 aa => (wp_region_lit (sc n.ok rfl (wn _ rfl) rfl (o_f0 Tryz.func52 rfl rfl rfl ) (fevery w) ?_))))))
 rintro _ w7 ⟨ev, rfl, hev, L⟩
 obtain ⟨ea, en, ec, rfl⟩ := hev.form
 refine ⟨_, rfl, fun aA h => ?_⟩
 have G9 := Y.trans L
 have M := hb.gr L
 refine sw h.ok (o_mv (h.n (n.n K))) (fun aB j => ?_)
 refine sc j.ok rfl (wn _ rfl) rfl (o_f1 Tryz.func107 rfl rfl rfl j.at_) (ownDots_k b S.me S.made S.stamp fa sa la fn fc sn sq S.P.length lc hO.me hO.made w7 M) ?_
 rintro _ aC ⟨oa, oc, pa, pc, rfl, hok, o⟩
 refine ⟨_, rfl, fun aD l => ?_⟩
 have ad := G9.trans o
 have af := M.gr o
 have ag := hev.gr o
 refine sw l.ok (o_bd (cells := #[.slice ea en ec, .slice oa ((ints (ownV S.me S.made)).length) oc, .slice pa 0 pc]) (vs := [(0, .slice ea en ec), (1, .agg #[.slice oa ((ints (ownV S.me S.made)).length) oc, .slice pa 0 pc])]) (by simp [(l.n (j.n h.at_)), l.at_, ev_const]) (by kernel_rfl)) (fun aE q => ?_)
 obtain ⟨aF, ah, ai, r⟩ := info3_of (show (Tryz.prog.info? 151).map (fun i => (i.zero, i.size)) = some (some (.agg #[.slice none 0 0, .slice none 0 0, .slice none 0 0]), 3) by kernel_rfl)
 refine sals (cs := #[.slice ea en ec, .slice oa ((ints (ownV S.me S.made)).length) oc, .slice pa 0 pc]) q.ok rfl (wn _ rfl) rfl (o_bs (vs := [(0, .agg #[.slice ea en ec, .slice oa ((ints (ownV S.me S.made)).length) oc, .slice pa 0 pc])]) (by simp [q.at_, ev_const]) Tryz.underlying32 ah ai (by rw [r]; rfl) (by rw [r]; rfl) (by rw [r]; kernel_rfl)) (fun aG aj ak g t => ?_)
 have O := ad.trans g.gr
 have al := af.gr g.gr
 have am := ag.gr g.gr
 have an := hok.gr g.gr
 refine sw t.ok (o_as t.at_) (fun aH u => ?_)
 refine wpList_nil (th_n (aa _ _ (wp_seq_k (fun aI ao => (wp_region_lit (sw u.ok (o_mv u.at_) (fun aJ y => ?_)))))))
 have ap := y.n (u.n (t.n (q.n (l.n (j.n (h.n (n.n K)))))))
 refine sw y.ok (o_mv ap) (fun aK A => ?_)
 refine sw A.ok (o_nc A.at_) (fun aL B => ?_)
 refine sw B.ok (o_fa (z := 1) B.at_ Tryz.underlying125 rfl (by kernel_rfl) rfl rfl) (fun aM C => ?_)
 refine sw C.ok (o_ld C.at_ (Tryz.isAgg32 _) (al.cell _ rfl)) (fun aO D => ?_)
 have aq := D.n (C.n (B.n (A.n y.at_)))
 refine sc D.ok rfl (wn _ rfl) rfl (o_f2 Tryz.func100 rfl rfl rfl aq D.at_) (own_join S hO ak ea oa pa la en ec oc pc lc _ aj g.bk (am.le (by decide)) an (hP.gr O)) ?_
 rintro _ aS ⟨F, ja, jc, rfl, hFl, hFs, hFf, hFp, ar⟩
 refine ⟨_, rfl, fun aT T => ?_⟩
 have au := O.trans ar
 refine sw T.ok (o_mv T.at_) (fun aU E => ?_)
 refine sw E.ok (o_ex E.at_ rfl) (fun aV G => ?_)
 refine sw G.ok (o_ex (G.n E.at_) rfl) (fun aW H => ?_)
 refine sw H.ok (o_as (H.n G.at_)) (fun aX I => ?_)
 refine sw I.ok (o_as (I.n H.at_)) (fun aY U => ?_)
 refine wpList_nil (th_n (ao _ _ (wp_seq_k (fun aZ av => (wp_region_lit (sw U.ok (o_mv (U.n I.at_)) (fun a1 V => ?_)))))))
 refine sw V.ok (o_as V.at_) (fun a2 W => ?_)
 refine wpList_nil (th_n (av _ _ (wp_ret (ret1 W.ok rfl (W.at_) ⟨F, ja, jc, rfl, hFl, hFs, hFf, hFp, au⟩))))
theorem snew_ok (me : Nat) (hme : me < 5) (fv : Value) (T : Nat → Nat) (w : World) (hf : FS w fv T) :
  Calls Tryz.prog 15 #[.int .i64 (me : Int), fv] w fun e w' => ∃ b, e = .returned (.tuple #[.pointer (some ⟨b, 0, none⟩), .int .i64 0]) ∧ w.heap.size ≤ b ∧ SiteAt w' b ⟨me, 0, 0, T, [], []⟩ ∧ Gr w w' := by
 refine enter (N := 23) Tryz.func15 rfl rfl rfl (fun F ok0 z => ?_)
 have G : F.eval (.tmp 0) = .int .i64 (me : Int) := z 0 _ rfl
 have O : F.eval (.tmp 1) = fv := z 1 _ rfl
 clear z
 have S := Gr.refl w
 refine wp_seq_k (fun K1 U => (wp_region_lit (sw ok0 (o_as ev_const) (fun am a => ?_))))
 refine sw a.ok (o_as ev_const) (fun an c => ?_)
 refine wpList_nil (th_n (U _ _ (wp_seq_k (fun K4 V => (wp_seq_k (fun K5 W => (wp_region_lit (sw c.ok (o_mv (c.n (a.n G))) (fun aq g => ?_)))))))))
 refine sc g.ok rfl (wn _ rfl) rfl (o_f1 Tryz.func67 rfl rfl rfl g.at_) (isSite_ok me hme w) ?_
 rintro _ X ⟨rfl, Y⟩
 refine ⟨_, rfl, fun ar h => ?_⟩
 have H := S.trans Y
 refine sw h.ok (o_not h.at_ rfl) (fun au j => ?_)
 refine wpList_nil (th_n (W _ _ (wp_cond_false (j.at_) ?_)))
 refine wp_skip (th_n (V _ _ (wp_seq_k (fun av Z => (wp_region_lit ?_)))))
 have aa := j.n (h.n (g.n (c.n (a.n O))))
 refine sw j.ok (o_mv aa) (fun ax A => ?_)
 refine sc A.ok rfl (wn _ rfl) rfl (o_f1 Tryz.func68 rfl rfl rfl A.at_) (copyf_any fv T X (hf.gr H)) ?_
 rintro _ ay ⟨fa, fn, fc, rfl, hgf, ab⟩
 refine ⟨_, rfl, fun az B => ?_⟩
 have I := H.trans ab
 refine sw B.ok (o_mv B.at_) (fun aA l => ?_)
 refine sw l.ok (o_ex l.at_ rfl) (fun aB n => ?_)
 refine sw n.ok (o_ex (n.n l.at_) rfl) (fun aC o => ?_)
 refine sw o.ok (o_as (o.n n.at_)) (fun aD q => ?_)
 refine sw q.ok (o_as (q.n o.at_)) (fun aE r => ?_)
 refine wpList_nil (th_n (Z _ _ (wp_seq_k (fun aF ac => (wp_seq_k (fun aG ad => (wp_region_lit (sw r.ok (o_mv r.at_) (fun aH t => ?_)))))))))
 refine sw t.ok (o_neq (b := false) t.at_ ev_const (by decide)) (fun aI u => ?_)
 refine wpList_nil (th_n (ad _ _ (wp_cond_false (u.at_) ?_)))
 refine wp_skip (th_n (ac _ _ (wp_seq_k (fun aJ af => (wp_region_lit ?_)))))
 have ag := u.n (t.n (r.n (q.n (o.n (n.n (l.n (B.n (A.n (j.n (h.n (g.n (c.n (a.n G)))))))))))))
 refine sw u.ok (o_mv ag) (fun aK C => ?_)
 have ah := C.n (u.n (t.n (r.n q.at_)))
 refine sw C.ok (o_mv ah) (fun aL D => ?_)
 refine sw D.ok (o_bd (cells := #[.int .i64 (me : Int), .int .i64 0, .int .i64 0, .slice fa fn fc, .slice none 0 0, .slice none 0 0]) (vs := [(0, .int .i64 (me : Int)), (3, .slice fa fn fc)]) (by simp [(D.n C.at_), D.at_, ev_const]) (by kernel_rfl)) (fun aM J => ?_)
 refine sal (cs := #[.int .i64 (me : Int), .int .i64 0, .int .i64 0, .slice fa fn fc, .slice none 0 0, .slice none 0 0]) J.ok rfl (wn _ rfl) rfl (o_box J.at_) (fun aO aS K y L => ?_)
 have ai : w.heap.size ≤ K := by rw [y.eq]; exact I.size
 have aj := I.trans y.gr
 have ak := hgf.gr0 y.gr
 refine sw L.ok (o_as L.at_) (fun aT M => ?_)
 refine sw M.ok (o_as ev_const) (fun aU E => ?_)
 refine wpList_nil (th_n (af _ _ (wp_ret (ret2 E.ok rfl ((E.n M.at_)) (E.at_) ⟨K, rfl, ai, ⟨fa, fn, fc, none, 0, 0, none, 0, y.bk, ak.any, ResV.none _, PL.nil _⟩, aj⟩))))
end Go.Proofs.YtglbnggkkjhokaaGreat
/- Site: Make, Want. -/
namespace Go.Proofs.YtglbnggkkjhokaaGreat
open Go.RowKit Rm Gx
theorem KnO.updL {base b : Nat} {w w' : World} {k : Value} {v : List Nat} {m : List (Nat × Nat)} (h : KnO base w k v m) (u : Upd w w' b) (hb : b < base) : KnO base w' k v m := by
 obtain ⟨vv, mv, e, h1, h2⟩ := h
 exact ⟨vv, mv, e, ow_upd h1 u hb, ow_upd h2 u hb⟩
theorem ResV.updL {base b : Nat} {w w' : World} {u : Value} {L : List VerD} (h : ResV base w u L) (up : Upd w w' b) (hb : b < base) : ResV base w' u L := by
 obtain ⟨R, h1, h2, h3⟩ := h
 refine ⟨R, h1, ow_upd h2 up hb, fun x hx => ?_⟩
 obtain ⟨v, m, e1, e2, e3⟩ := h3 x hx
 exact ⟨v, m, e1, e2, e3.updL up hb⟩
def newD (S : SiD) (l : List UInt8) (t n d : Int) : VerD := ⟨l, (S.me : Int), ((S.made + 1 : Nat) : Int), t, n, d, ints (formV (pD S.L l)), pairs (formM (pD S.L l))⟩
def mkS (S : SiD) (l : List UInt8) (t n d : Int) : SiD := { S with made := S.made + 1, L := putL S.L (newD S l t n d) }
def NewAt (w w' : World) (b : Nat) (S S' : SiD) : Prop := ∃ fa fn fc sa sn sq la lc ra rn rc, Bk w b #[.int .i64 (S.me : Int), .int .i64 (S.made : Int), .int .i64 (S.stamp : Int), .slice fa fn fc, .slice sa sn sq, .slice la S.P.length lc] 125 ∧ Bk w' b #[.int .i64 (S'.me : Int), .int .i64 (S'.made : Int), .int .i64 (S'.stamp : Int), .slice fa fn fc, .slice ra rn rc, .slice la S'.P.length lc] 125 ∧ ResV w.heap.size w' (.slice ra rn rc) S'.L
theorem past_s (u : Value) (L : List VerD) (l : List UInt8) (base : Nat) (w : World) (hL : OkS L) (hf : (formM (pD L l)).length ≤ 60) (hu : ResV base w u L) :
  Calls Tryz.prog 78 #[u, .string (bs l)] w fun e w' => ∃ pa pc qa qc, e = .returned (.tuple #[.agg #[.slice pa (ints (formV (pD L l))).length pc, .slice qa (pairs (formM (pD L l))).length qc], .int .i64 0]) ∧ (∃ bs, KnW bs w' (.agg #[.slice pa (ints (formV (pD L l))).length pc, .slice qa (pairs (formM (pD L l))).length qc]) (formV (pD L l)) (formM (pD L l))) ∧ Gr w w' := by
 obtain ⟨K, a, c, rfl, hK, -, -, hr, hm⟩ := hu.rd
 obtain ⟨f1, f2, f3⟩ := fr_of hf
 subst hK
 refine (past_w K a c l ((okS_iff _).2 hL) w hr hm).mono ?_
 rintro e w' ⟨k, bs, rfl, h, g⟩
 rw [f2, f3] at h
 rw [f1]
 obtain ⟨va, vc, ma, mc, rfl, -, -⟩ := knr_form h.rd
 exact ⟨va, vc, ma, mc, rfl, ⟨bs, h⟩, g⟩
theorem put_s (u : Value) (L : List VerD) (y : VerI) (base : Nat) (w : World) (hp : putE L y.d = 0) (hu : ResV base w u L) (hy : MeanV w y) :
  Calls Tryz.prog 79 #[u, .agg (encVr y).toArray] w fun e w' => ∃ a n c, e = .returned (.tuple #[.slice a n c, .int .i64 0]) ∧ ResV w.heap.size w' (.slice a n c) (putL L y.d) ∧ Gr w w' := by
 obtain ⟨K, a, c, rfl, hK, -, -, hr, hm⟩ := hu.rd
 subst hK
 refine (sput_any K y a c w hr hm hy).mono ?_
 rintro e w' ⟨v, rfl, h, g⟩
 rw [hp]
 have h' := h
 obtain ⟨R, h1, h2, h3⟩ := h'
 obtain ⟨a, c, rfl, -⟩ := ow_form h2
 exact ⟨a, _, c, rfl, h, g⟩
theorem ResV.lower {base base' : Nat} {w : World} {u : Value} {L : List VerD} (h : ResV base w u L) (hb : base' ≤ base) : ResV base' w u L := by
 obtain ⟨R, h1, h2, h3⟩ := h
 exact ⟨R, h1, ow_lessP h2 hb, h3.base hb⟩
theorem newI (S : SiD) (l : List UInt8) (t n d : Int) (pa qa : Option Addr) (pc qc : Nat) (w : World) (h : KnR w (.agg #[.slice pa (ints (formV (pD S.L l))).length pc, .slice qa (pairs (formM (pD S.L l))).length qc]) (ints (formV (pD S.L l))) (pairs (formM (pD S.L l)))) :
  ∃ y : VerI, Value.agg #[.string (bs l), .int .i64 ((S.me : Nat) : Int), .int .i64 ((S.made + 1 : Nat) : Int), .int .i64 (t), .int .i64 (n), .int .i64 (d), .slice pa ((ints (formV (pD S.L l))).length) pc, .slice qa ((pairs (formM (pD S.L l))).length) qc] = .agg (encVr y).toArray ∧ y.d = newD S l t n d ∧ MeanV w y := by
 have hD : newD S l t n d = ⟨l, (S.me : Int), ((S.made + 1 : Nat) : Int), t, n, d, ints (formV (pD S.L l)), pairs (formM (pD S.L l))⟩ := rfl
 generalize ints (formV (pD S.L l)) = V at h hD ⊢
 generalize pairs (formM (pD S.L l)) = M at h hD ⊢
 exact ⟨⟨⟨l, (S.me : Int), ((S.made + 1 : Nat) : Int), t, n, d, V, M⟩, pa, pc, qa, qc⟩, rfl, hD.symm, h⟩
theorem put_b (u : Value) (L : List VerD) (y : VerI) (base base2 : Nat) (w : World) (hz : base2 ≤ w.heap.size) (hp : putE L y.d = 0) (hu : ResV base w u L) (hy : MeanV w y) :
  Calls Tryz.prog 79 #[u, .agg (encVr y).toArray] w fun e w' => ∃ a n c, e = .returned (.tuple #[.slice a n c, .int .i64 0]) ∧ ResV base2 w' (.slice a n c) (putL L y.d) ∧ Gr w w' :=
 (put_s u L y base w hp hu hy).mono fun e w' ⟨a, n, c, h1, h2, g⟩ => ⟨a, n, c, h1, h2.lower hz, g⟩
theorem smake_ok (b : Nat) (S : SiD) (l : List UInt8) (t n d : Int) (w0 w : World) (hG : Gr w0 w) (hB : w0.heap.size ≤ b) (hS : SiteAt w b S) (hO : SiOk S) (hone : chkOne ⟨l, (S.me : Int), 1, t, n, d, [], []⟩ = 0) (hmd : S.made < 1000) (hfew : (formM (pD S.L l)).length ≤ 60) (hput : putE S.L (newD S l t n d) = 0) :
  Calls Tryz.prog 22 #[.pointer (some ⟨b, 0, none⟩), .string (bs l), .agg #[.int .i64 (t), .int .i64 (n)], .int .i64 (d)] w fun e w' => e = .returned (.tuple #[.agg #[.int .i64 (S.me : Int), .int .i64 ((S.made + 1 : Nat) : Int)], .int .i64 0]) ∧ SiteAt w' b (mkS S l t n d) ∧ NewAt w w' b S (mkS S l t n d) ∧ w.grownBy w' (some b) := by
 refine enter (N := 83) Tryz.func22 rfl rfl rfl (fun a0 ok0 h0 => ?_)
 have b7 : a0.eval (.tmp 0) = .pointer (some ⟨b, 0, none⟩) := h0 0 _ rfl
 have b8 : a0.eval (.tmp 1) = .string (bs l) := h0 1 _ rfl
 have b9 : a0.eval (.tmp 2) = .agg #[.int .i64 (t), .int .i64 (n)] := h0 2 _ rfl
 have ca : a0.eval (.tmp 3) = .int .i64 (d) := h0 3 _ rfl
 clear h0
 have hS0 := hS
 obtain ⟨fa, fn, fc, sa, sn, sq, la, lc, hb, hF, hR, hP⟩ := hS
 have hlt : b < w.heap.size := hb.lt
 have hst := hO.st
 have hA0 := Gr.refl w
 refine wp_seq_k (fun K1 cb => (wp_region_lit (sal (cs := #[.int .i64 (t), .int .i64 (n)]) ok0 rfl (wn _ rfl) rfl (o_box b9) (fun fp w4 b3 W5 n2 => ?_))))
 have bq := hb.gr W5.gr
 have cc := hA0.trans W5.gr
 have br := gb_gr (gb_self : w.grownBy w (some b)) W5.gr
 refine sal (cs := #[.int .i64 0, .int .i64 0]) n2.ok rfl (wn _ rfl) rfl (o_al (z := .agg #[.int .i64 0, .int .i64 0]) (by kernel_rfl)) (fun ft cd aF j J => ?_)
 have a8 : b < aF := by rw [j.eq]; exact bq.lt
 have cf : w.heap.size ≤ aF := by rw [j.eq]; exact br.size
 have a9 := bq.gr j.gr
 have cg := W5.bk.gr j.gr
 have bt := cc.trans j.gr
 have bu := gb_gr br j.gr
 refine sw J.ok (o_as ev_const) (fun fu K => ?_)
 refine wpList_nil (th_n (cb _ _ (wp_seq_k (fun fv ch => (reg_start (N := 83) (m := 10) (by kernel_rfl) (fun ci => ?_))))))
 have bv := K.n (J.n (n2.n b8))
 have cj := ci.snoc (n' := 1) rfl (fun vJ _ => vJ = .string (bs l)) rfl (fun _ _ _ _ h => h) (fun aS wS pS => by
   exact Does.val (wn _ rfl) (o_mv ((pS.old 1 rfl).trans bv)) (Gr.refl _) rfl rfl)
 have bx := K.n (J.n (n2.n b7))
 have ck := cj.snoc (n' := 2) rfl (fun vJ _ => vJ = .pointer (some ⟨b, 0, none⟩)) rfl (fun _ _ _ _ h => h) (fun aS wS pS => by
   exact Does.val (wn _ rfl) (o_mv ((pS.old 0 rfl).trans bx)) (Gr.refl _) rfl rfl)
 have cl := ck.snoc (n' := 3) rfl (fun vJ _ => vJ = .pointer (some ⟨b, 0, none⟩)) rfl (fun _ _ _ _ h => h) (fun aS wS pS => by
   have eR38_1 : aS.eval (.tmp 16) = .pointer (some ⟨b, 0, none⟩) := pS.pre 1 rfl
   exact Does.val (wn _ rfl) (o_nc (eR38_1)) (Gr.refl _) rfl rfl)
 have cm := cl.snoc (n' := 4) rfl (fun vJ _ => vJ = .pointer (some ⟨b, 0, none⟩)) rfl (fun _ _ _ _ h => h) (fun aS wS pS => by
   have eR38_2 : aS.eval (.tmp 17) = .pointer (some ⟨b, 0, none⟩) := pS.pre 2 rfl
   exact Does.val (wn _ rfl) (o_fa (z := 1) (eR38_2) Tryz.underlying125 rfl (by kernel_rfl) rfl rfl) (Gr.refl _) rfl rfl)
 have cn := cm.snoc (n' := 5) rfl (fun vJ _ => vJ = .int .i64 ((S.me : Nat) : Int)) rfl (fun _ _ _ _ h => h) (fun aS wS pS => by
   have eR38_3 : aS.eval (.tmp 18) = .pointer (some ⟨b, 0, none⟩) := pS.pre 3 rfl
   exact Does.val (wn _ rfl) (o_ld (eR38_3) (Tryz.isAgg3 _) ((Bk.gr a9 (gr_drew pS.gr)).cell _ rfl)) (Gr.refl _) rfl rfl)
 have co := cn.snoc (n' := 6) rfl (fun vJ _ => vJ = .agg #[.int .i64 ((S.me : Nat) : Int), .int .i64 1]) rfl (fun _ _ _ _ h => h) (fun aS wS pS => by
   have eR38_4 : aS.eval (.tmp 19) = .int .i64 ((S.me : Nat) : Int) := pS.pre 4 rfl
   exact Does.val (wn _ rfl) (o_bd (cells := #[.int .i64 ((S.me : Nat) : Int), .int .i64 1]) (vs := [(0, .int .i64 ((S.me : Nat) : Int)), (1, .int .i64 1)]) (by simp [(eR38_4), ev_const]) (by kernel_rfl)) (Gr.refl _) rfl rfl)
 have cp := co.snoc (n' := 7) rfl (fun vJ _ => vJ = .agg #[.int .i64 (t), .int .i64 (n)]) rfl (fun _ _ _ _ h => h) (fun aS wS pS => by
   exact Does.val (wn _ rfl) (o_ldR ((pS.old 6 rfl).trans (K.n (J.n n2.at_))) (Bk.gr cg (gr_drew pS.gr)) Tryz.underlying49 rfl (by kernel_rfl)) (Gr.refl _) rfl rfl)
 have cq := K.n (J.n (n2.n ca))
 have cr := cp.snoc (n' := 8) rfl (fun vJ _ => vJ = .int .i64 (d)) rfl (fun _ _ _ _ h => h) (fun aS wS pS => by
   exact Does.val (wn _ rfl) (o_mv ((pS.old 3 rfl).trans cq)) (Gr.refl _) rfl rfl)
 have ct := cr.snoc (n' := 9) rfl (fun vJ _ => vJ = .agg #[.string (bs l), .int .i64 ((S.me : Nat) : Int), .int .i64 1, .int .i64 (t), .int .i64 (n), .int .i64 (d), .slice none 0 0, .slice none 0 0]) rfl (fun _ _ _ _ h => h) (fun aS wS pS => by
   have eR38_0 : aS.eval (.tmp 15) = .string (bs l) := pS.pre 0 rfl
   have eR38_5 : aS.eval (.tmp 20) = .agg #[.int .i64 ((S.me : Nat) : Int), .int .i64 1] := pS.pre 5 rfl
   have eR38_6 : aS.eval (.tmp 21) = .agg #[.int .i64 (t), .int .i64 (n)] := pS.pre 6 rfl
   have eR38_7 : aS.eval (.tmp 22) = .int .i64 (d) := pS.pre 7 rfl
   exact Does.val (wn _ rfl) (o_bd (cells := #[.string (bs l), .int .i64 ((S.me : Nat) : Int), .int .i64 1, .int .i64 (t), .int .i64 (n), .int .i64 (d), .slice none 0 0, .slice none 0 0]) (vs := [(0, .string (bs l)), (1, .agg #[.int .i64 ((S.me : Nat) : Int), .int .i64 1]), (2, .agg #[.int .i64 (t), .int .i64 (n)]), (3, .int .i64 (d))]) (by simp [(eR38_0), (eR38_5), (eR38_6), (eR38_7), ev_const]) (by kernel_rfl)) (Gr.refl _) rfl rfl)
 have cu := ct.snoc (n' := 10) rfl (fun vJ wJ => ∃ b : Nat, vJ = .pointer (some ⟨b, 0, none⟩) ∧ cd.heap.size ≤ b ∧ Bk wJ b #[.string (bs []), .int .i64 0, .int .i64 0, .int .i64 0, .int .i64 0, .int .i64 0, .slice none 0 0, .slice none 0 0] 106) rfl (fun _ _ _ g ⟨b, h1, h2, h3⟩ => ⟨b, h1, h2, h3.gr g⟩) (fun aS wS pS => by
   exact Does.alloc (wn _ rfl) (o_al (z := .agg #[.string (bs []), .int .i64 0, .int .i64 0, .int .i64 0, .int .i64 0, .int .i64 0, .slice none 0 0, .slice none 0 0]) (by kernel_rfl)) ⟨_, rfl, pS.gr.size, (New.mk' _ _ _).bk⟩)
 refine cu.run (k := 1) (L := #[true, true, true, true, true, true, true, true, true, true, false]) (by kernel_rfl) (by kernel_rfl) (by kernel_rfl) K.ok (by kernel_rfl) (by kernel_rfl) (fun ap44 fx B => ?_)
 have aZ := gr_drew B.gr
 have cA := a9.gr aZ
 have cB := j.bk.gr aZ
 have cC := bt.trans aZ
 have cD := gb_gr bu aZ
 obtain ⟨o, ep44_9, geb42, bkb42⟩ := B.js 9 rfl
 have ep44_9 : ap44.eval (.tmp 10) = .pointer (some ⟨o, 0, none⟩) := ep44_9
 have aG : b < o := Nat.lt_of_lt_of_le a9.lt geb42
 have ba : aF < o := Nat.lt_of_lt_of_le j.bk.lt geb42
 have bb : w.heap.size ≤ o := Nat.le_trans (bu.size) geb42
 have bc : w.heap.size ≤ o := Nat.le_trans bt.size geb42
 have ep44_8 : ap44.eval (.tmp 23) = .agg #[.string (bs l), .int .i64 ((S.me : Nat) : Int), .int .i64 1, .int .i64 (t), .int .i64 (n), .int .i64 (d), .slice none 0 0, .slice none 0 0] := B.js 8 rfl
 refine t_stR (i := 10) (by kernel_rfl) rfl rfl (wn _ rfl) (o_stR ep44_9 ep44_8 bkb42 (by kernel_rfl) rfl (by first | (simp [Value.oneCell']; done) | (rw [← Array.all_toList]; simp [Value.oneCell']))) bkb42 (fun bz a1 bA => ?_)
 have cE := cA.upd a1 (Nat.ne_of_lt aG)
 have cF := cB.upd a1 (Nat.ne_of_lt ba)
 have cG : Gr w bz := Below.upd cC bc a1
 have cH := gb_upd cD a1 bb
 refine wpAny_done (by kernel_rfl) ?_ _
 refine th_n (ch _ _ (wp_seq_k (fun fy cI => (wp_seq_k (fun fz cJ => (wp_region_lit (sw B.ok (o_ldR ep44_9 bA Tryz.underlying106 rfl (by kernel_rfl)) (fun fA M => ?_))))))))
 refine sc M.ok rfl (wn _ rfl) rfl (o_f1 Tryz.func77 rfl rfl rfl M.at_) ((by have h := vone_any (⟨⟨l, (S.me : Int), 1, t, n, d, [], []⟩, none, 0, none, 0⟩ : VerI) bz (knR_nil _); rw [hone] at h; exact h)) ?_
 rintro _ cK ⟨rfl, aH⟩
 refine ⟨_, rfl, fun fB O => ?_⟩
 have bd := cE.gr aH
 have cL := cF.gr aH
 have cM := bA.gr aH
 have bB := cG.trans aH
 have cO := gb_gr cH aH
 refine sw O.ok (o_as O.at_) (fun fC T => ?_)
 refine wpList_nil (th_n (cJ _ _ (wp_seq_k (fun fD cS => (wp_region_lit (sw T.ok (o_mv T.at_) (fun fE U => ?_)))))))
 refine sw U.ok (o_neq (b := false) U.at_ ev_const (by decide)) (fun fF V => ?_)
 refine wpList_nil (th_n (cS _ _ (wp_cond_false (V.at_) ?_)))
 refine wp_skip (th_n (cI _ _ (wp_seq_k (fun fG cT => (wp_seq_k (fun fH cU => (wp_region_lit ?_)))))))
 have bC := V.n (U.n (T.n (O.n (M.n ((B.old 0 rfl).trans bx)))))
 refine sw V.ok (o_mv bC) (fun fI W => ?_)
 refine sw W.ok (o_nc W.at_) (fun fJ X => ?_)
 refine sw X.ok (o_fa (z := 1) X.at_ Tryz.underlying125 rfl (by kernel_rfl) rfl rfl) (fun fK Y => ?_)
 refine sw Y.ok (o_ld Y.at_ (Tryz.isAgg3 _) (bd.cell _ rfl)) (fun fL Z => ?_)
 refine sw Z.ok (o_eq Z.at_ ev_const (decide_eq_false (show ¬ ((S.made : Nat) : Int) = 1000 by omega))) (fun fM aa => ?_)
 refine wpList_nil (th_n (cU _ _ (wp_cond_false (aa.at_) ?_)))
 refine wp_skip (th_n (cT _ _ (wp_seq_k (fun fO cV => (wp_region_lit ?_)))))
 have bD := aa.n (Z.n (Y.n (X.n (W.n bC))))
 refine sw aa.ok (o_mv bD) (fun fS ab => ?_)
 refine sw ab.ok (o_nc ab.at_) (fun fT ac => ?_)
 refine sw ac.ok (o_fa (z := 1) ac.at_ Tryz.underlying125 rfl (by kernel_rfl) rfl rfl) (fun fU ad => ?_)
 refine sw ad.ok (o_ld ad.at_ (Tryz.isAgg41 _) (bd.cell _ rfl)) (fun fV af => ?_)
 have cW := af.n (ad.n (ac.n (ab.n (aa.n (Z.n (Y.n (X.n (W.n (V.n (U.n (T.n (O.n (M.n ((B.old 1 rfl).trans bv))))))))))))))
 refine sw af.ok (o_mv cW) (fun fW ag => ?_)
 refine sc ag.ok rfl (wn _ rfl) rfl (o_f2 Tryz.func78 rfl rfl rfl (ag.n af.at_) ag.at_) (past_s _ S.L l 0 cK hO.ok hfew (hR.gr0 bB)) ?_
 rintro _ bf ⟨pa, pc, qa, qc, rfl, hk, aI⟩
 obtain ⟨bsk, hkw⟩ := hk
 refine ⟨_, rfl, fun fX aJ => ?_⟩
 have bE := bd.gr aI
 have bF := cL.gr aI
 have bG := cM.gr aI
 have bH := bB.trans aI
 have cX := gb_gr cO aI
 refine sw aJ.ok (o_mv aJ.at_) (fun fY ah => ?_)
 refine sw ah.ok (o_ex ah.at_ rfl) (fun fZ ai => ?_)
 refine sw ai.ok (o_ex (ai.n ah.at_) rfl) (fun f0 aj => ?_)
 refine sal (cs := #[.slice none 0 0, .slice none 0 0]) aj.ok rfl (wn _ rfl) rfl (o_al (z := .agg #[.slice none 0 0, .slice none 0 0]) (by kernel_rfl)) (fun f1 f2 aK a q => ?_)
 have bI := Gr.refl bf
 have cY : b < aK := by rw [a.eq]; exact bE.lt
 have cZ : aF < aK := by rw [a.eq]; exact bF.lt
 have c0 : o < aK := by rw [a.eq]; exact bG.lt
 have c1 : w.heap.size ≤ aK := by rw [a.eq]; exact bH.size
 have c2 : bf.heap.size ≤ aK := by rw [a.eq]; exact bI.size
 have c3 := bE.gr a.gr
 have c4 := bF.gr a.gr
 have c5 := bG.gr a.gr
 have c6 := bH.trans a.gr
 have c7 := bI.trans a.gr
 refine ssR rfl (wn _ rfl) (o_stR q.at_ (q.n (aj.n ai.at_)) a.bk (by kernel_rfl) rfl (by first | (simp [Value.oneCell']; done) | (rw [← Array.all_toList]; simp [Value.oneCell']))) a.bk (fun aL aM c8 => ?_)
 have bJ := c3.upd aM (Nat.ne_of_lt cY)
 have c9 := c4.upd aM (Nat.ne_of_lt cZ)
 have da := c5.upd aM (Nat.ne_of_lt c0)
 have db : Gr w aL := Below.upd c6 c1 aM
 have bK : Gr bf aL := Below.upd c7 c2 aM
 have dc := gb_gr cX bK
 have dd := hkw.gr bK
 refine sw q.ok (o_as (q.n aj.at_)) (fun f3 ak => ?_)
 refine wpList_nil (th_n (cV _ _ (wp_seq_k (fun f4 df => (wp_seq_k (fun f5 dg => (wp_region_lit (sw ak.ok (o_mv ak.at_) (fun f6 al => ?_)))))))))
 refine sw al.ok (o_neq (b := false) al.at_ ev_const (by decide)) (fun f7 am => ?_)
 refine wpList_nil (th_n (dg _ _ (wp_cond_false (am.at_) ?_)))
 refine wp_skip (th_n (df _ _ (wp_seq_k (fun f8 dh => (h_start [o] 11 #[false, false, false, false, false, false, false, false, false, false, false] (by kernel_rfl) rfl rfl ?_)))))
 have S168 := Sx.drew [o] aL
 have an := (Gr.refl aL).drew
 generalize aL.drew = f9 at *
 have di := bJ.gr an
 have dj := c9.gr an
 have bg := da.gr an
 have dk := db.trans an
 have dl := gb_gr dc an
 have dm := dd.gr an
 have bL := am.n (al.n (ak.n (q.n (aj.n (ai.n (ah.n (aJ.n (ag.n (af.n (ad.n (ac.n (ab.n bD))))))))))))
 refine h_take (i := 0) (fuel := 10) am.ok rfl rfl rfl (by kernel_rfl) (by kernel_rfl) (by kernel_rfl) (fun _ _ _ _ _ h => h) (wn _ rfl) (fun x hx => o_mv bL) S168 (fun ga ao => ?_)
 refine h_take (i := 1) (fuel := 9) ao.ok rfl rfl rfl (by kernel_rfl) (by kernel_rfl) (by kernel_rfl) (fun _ _ _ _ _ h => h) (wn _ rfl) (fun x hx => o_nc ao.at_) S168 (fun gb ap => ?_)
 refine h_take (i := 2) (fuel := 8) ap.ok rfl rfl rfl (by kernel_rfl) (by kernel_rfl) (by kernel_rfl) (fun _ _ _ _ _ h => h) (wn _ rfl) (fun x hx => o_fa (z := 1) ap.at_ Tryz.underlying125 rfl (by kernel_rfl) rfl rfl) S168 (fun gc aq => ?_)
 refine h_take (i := 3) (fuel := 7) aq.ok rfl rfl rfl (by kernel_rfl) (by kernel_rfl) (by kernel_rfl) (fun _ _ _ _ _ h => h) (wn _ rfl) (fun x hx => o_ld aq.at_ (Tryz.isAgg3 _) ((Sx.bk hx bJ (by simp <;> omega)).cell _ rfl)) S168 (fun gd ar => ?_)
 refine h_take (i := 4) (fuel := 6) ar.ok rfl rfl rfl (by kernel_rfl) (by kernel_rfl) (by kernel_rfl) (fun _ _ _ _ _ h => h) (wn _ rfl) (fun x hx => o_add (r := ((S.made + 1 : Nat) : Int)) ar.at_ ev_const (by omega) (by omega)) S168 (fun gf au => ?_)
 have dn := au.n (ar.n (aq.n (ap.n (ao.n (am.n (al.n (ak.n q.at_)))))))
 refine h_take (i := 5) (fuel := 5) au.ok rfl rfl rfl (by kernel_rfl) (by kernel_rfl) (by kernel_rfl) (fun _ _ _ _ _ h => h) (wn _ rfl) (fun x hx => o_ldR dn (Sx.bk hx c8 (by simp <;> omega)) Tryz.underlying75 rfl (by kernel_rfl)) S168 (fun gg av => ?_)
 have bh := av.n (au.n (ar.n (aq.n (ap.n (ao.n (am.n (al.n (ak.n (q.n (aj.n (ai.n (ah.n (aJ.n (ag.n (af.n (ad.n (ac.n (ab.n (aa.n (Z.n (Y.n (X.n (W.n (V.n (U.n (T.n (O.n (M.n ep44_9))))))))))))))))))))))))))))
 refine h_take (i := 6) (fuel := 4) av.ok rfl rfl rfl (by kernel_rfl) (by kernel_rfl) (by kernel_rfl) (fun _ _ _ _ _ h => h) (wn _ rfl) (fun x hx => o_fa (z := 2) bh Tryz.underlying106 rfl (by kernel_rfl) rfl rfl) S168 (fun gh u => ?_)
 refine h_take (i := 7) (fuel := 3) u.ok rfl rfl rfl (by kernel_rfl) (by kernel_rfl) (by kernel_rfl) (fun _ _ _ _ _ h => h) (wn _ rfl) (fun x hx => o_fa (z := 1) u.at_ Tryz.underlying51 rfl (by kernel_rfl) rfl rfl) S168 (fun gi A => ?_)
 have dp := A.n (u.n (av.n au.at_))
 refine h_stC (i := 8) (fuel := 2) (by kernel_rfl) rfl rfl (wn _ rfl) (o_st A.at_ dp bg rfl (by kernel_rfl) rfl) bg S168 (by simp) (fun dq aO bM S196 => ?_)
 have dr := di.upd aO (Nat.ne_of_lt aG)
 have ds := dj.upd aO (Nat.ne_of_lt ba)
 have dt : Gr w dq := Below.upd dk bc aO
 have du := gb_upd dl aO bb
 have dv := dm.tks (tks_upd aO bg (by decide))
 refine h_take (i := 9) (fuel := 1) A.ok rfl rfl rfl (by kernel_rfl) (by kernel_rfl) (by kernel_rfl) (fun _ _ _ _ _ h => h) (wn _ rfl) (fun x hx => o_fa (z := 2) (A.n (u.n bh)) Tryz.underlying106 rfl (by kernel_rfl) rfl rfl) S196 (fun gj ax => ?_)
 have dx := ax.n (A.n (u.n av.at_))
 refine h_stP (i := 10) (fuel := 0) (vs := [.slice pa ((ints (formV (pD S.L l))).length) pc, .slice qa ((pairs (formM (pD S.L l))).length) qc]) (cs' := #[.string (bs l), .int .i64 ((S.me : Nat) : Int), .int .i64 ((S.made + 1 : Nat) : Int), .int .i64 (t), .int .i64 (n), .int .i64 (d), .slice pa ((ints (formV (pD S.L l))).length) pc, .slice qa ((pairs (formM (pD S.L l))).length) qc]) (by kernel_rfl) rfl (wn _ rfl) ax.at_ dx (by kernel_rfl) bM rfl (by simp [Value.oneCell']) rfl S196 (by simp) (fun a2 aT bO S211 => ?_)
 have bi := dr.upd aT (Nat.ne_of_lt aG)
 have bS := ds.upd aT (Nat.ne_of_lt ba)
 have bT : Gr w a2 := Below.upd dt bc aT
 have dy := gb_upd du aT bb
 have dz := dv.tks (tks_upd aT bM (by decide))
 refine wpAnyH_done (by kernel_rfl) ?_ _
 refine th_n (dh _ _ (wp_seq_k (fun gk dA => ?_)))
 obtain ⟨c, a3⟩ : ∃ n, n = a2.heap.size := ⟨_, rfl⟩
 have bU : b < c := by rw [a3]; exact bi.lt
 have dB : aF < c := by rw [a3]; exact bS.lt
 have dC : c ≤ a2.heap.size := Nat.le_of_eq a3
 have hz2 := dC
 have hz3 : w.heap.size ≤ c := by rw [a3]; exact bT.size
 have hkP := (dz).rd
 obtain ⟨y, hcell, hyd, hyk⟩ := newI S l t n d pa qa pc qc a2 hkP
 have hyp : putE S.L y.d = 0 := by rw [hyd]; exact hput
 refine reg_start (N := 83) (m := 11) (by kernel_rfl) (fun dD => ?_)
 have bV := ax.n (A.n (u.n (av.n (au.n (ar.n (aq.n (ap.n (ao.n bL))))))))
 have dE := dD.snoc (n' := 1) rfl (fun vJ _ => vJ = .pointer (some ⟨b, 0, none⟩)) rfl (fun _ _ _ _ h => h) (fun aS wS pS => by
   exact Does.val (wn _ rfl) (o_mv ((pS.old 0 rfl).trans bV)) (Gr.refl _) rfl rfl)
 have dF := dE.snoc (n' := 2) rfl (fun vJ _ => vJ = .pointer (some ⟨b, 0, none⟩)) rfl (fun _ _ _ _ h => h) (fun aS wS pS => by
   have eR231_0 : aS.eval (.tmp 59) = .pointer (some ⟨b, 0, none⟩) := pS.pre 0 rfl
   exact Does.val (wn _ rfl) (o_nc (eR231_0)) (Gr.refl _) rfl rfl)
 have dG := dF.snoc (n' := 3) rfl (fun vJ _ => vJ = .pointer (some ⟨b, 4, none⟩)) rfl (fun _ _ _ _ h => h) (fun aS wS pS => by
   have eR231_1 : aS.eval (.tmp 60) = .pointer (some ⟨b, 0, none⟩) := pS.pre 1 rfl
   exact Does.val (wn _ rfl) (o_fa (z := 1) (eR231_1) Tryz.underlying125 rfl (by kernel_rfl) rfl rfl) (Gr.refl _) rfl rfl)
 have dH := dG.snoc (n' := 4) rfl (fun vJ _ => vJ = .slice sa sn sq) rfl (fun _ _ _ _ h => h) (fun aS wS pS => by
   have eR231_2 : aS.eval (.tmp 61) = .pointer (some ⟨b, 4, none⟩) := pS.pre 2 rfl
   exact Does.val (wn _ rfl) (o_ld (eR231_2) (Tryz.isAgg41 _) ((Bk.gr bi (gr_drew pS.gr)).cell _ rfl)) (Gr.refl _) rfl rfl)
 have bW := ax.n (A.n (u.n bh))
 have dI := dH.snoc (n' := 5) rfl (fun vJ _ => vJ = .agg #[.string (bs l), .int .i64 ((S.me : Nat) : Int), .int .i64 ((S.made + 1 : Nat) : Int), .int .i64 (t), .int .i64 (n), .int .i64 (d), .slice pa ((ints (formV (pD S.L l))).length) pc, .slice qa ((pairs (formM (pD S.L l))).length) qc]) rfl (fun _ _ _ _ h => h) (fun aS wS pS => by
   exact Does.val (wn _ rfl) (o_ldR ((pS.old 10 rfl).trans bW) (Bk.gr bO (gr_drew pS.gr)) Tryz.underlying106 rfl (by kernel_rfl)) (Gr.refl _) rfl rfl)
 have dJ := dI.snoc (n' := 6) rfl (fun vJ wJ => ∃ (ra : Option Addr) (rn : Nat) (rc : Nat), vJ = .tuple #[.slice ra rn rc, .int .i64 0] ∧ (ResV c wJ (.slice ra rn rc) (putL S.L y.d))) rfl (fun _ _ _ g ⟨ra, rn, rc, h, C⟩ => ⟨ra, rn, rc, h, C.gr0 g⟩) (fun aS wS pS => by
   have eR231_3 : aS.eval (.tmp 62) = .slice sa sn sq := pS.pre 3 rfl
   have eR231_4 : aS.eval (.tmp 63) = .agg #[.string (bs l), .int .i64 ((S.me : Nat) : Int), .int .i64 ((S.made + 1 : Nat) : Int), .int .i64 (t), .int .i64 (n), .int .i64 (d), .slice pa ((ints (formV (pD S.L l))).length) pc, .slice qa ((pairs (formM (pD S.L l))).length) qc] := pS.pre 4 rfl
   exact Does.call (wn _ rfl) (o_f2 Tryz.func79 rfl rfl rfl (eR231_3) (eR231_4)) ((by rw [hcell]; exact put_b _ S.L y 0 c wS (Nat.le_trans hz2 (gr_drew pS.gr).size) hyp (hR.gr0 (bT.trans (gr_drew pS.gr))) (KnR.gr hyk (gr_drew pS.gr)))) (by rintro _ w2 ⟨ra, rn, rc, rfl, hr, g⟩; exact ⟨_, rfl, g, ⟨ra, rn, rc, rfl, hr⟩⟩) rfl)
 have dK := dJ.snoc (n' := 7) rfl (fun vJ wJ => ∃ (ra : Option Addr) (rn : Nat) (rc : Nat), vJ = .tuple #[.slice ra rn rc, .int .i64 0] ∧ (ResV c wJ (.slice ra rn rc) (putL S.L y.d))) rfl (fun _ _ _ g ⟨ra, rn, rc, h, C⟩ => ⟨ra, rn, rc, h, C.gr0 g⟩) (fun aS wS pS => by
   obtain ⟨ra, rn, rc, eR231_5, hr⟩ := pS.pre 5 rfl
   have eR231_5 : aS.eval (.tmp 64) = .tuple #[.slice ra rn rc, .int .i64 0] := eR231_5
   exact Does.val (wn _ rfl) (o_mv (eR231_5)) (Gr.refl _) ⟨ra, rn, rc, rfl, hr⟩ rfl)
 have dL := dK.snoc (n' := 8) rfl (fun vJ wJ => ∃ (ra : Option Addr) (rn : Nat) (rc : Nat), vJ = .slice ra rn rc ∧ (ResV c wJ (.slice ra rn rc) (putL S.L y.d))) rfl (fun _ _ _ g ⟨ra, rn, rc, h, C⟩ => ⟨ra, rn, rc, h, C.gr0 g⟩) (fun aS wS pS => by
   obtain ⟨ra, rn, rc, eR231_6, hr⟩ := pS.pre 6 rfl
   have eR231_6 : aS.eval (.tmp 58) = .tuple #[.slice ra rn rc, .int .i64 0] := eR231_6
   exact Does.val (wn _ rfl) (o_ex (eR231_6) rfl) (Gr.refl _) ⟨ra, rn, rc, rfl, hr⟩ rfl)
 have dM := dL.snoc (n' := 9) rfl (fun vJ _ => vJ = .int .i64 0) rfl (fun _ _ _ _ h => h) (fun aS wS pS => by
   obtain ⟨ra, rn, rc, eR231_6, hr⟩ := pS.pre 6 rfl
   have eR231_6 : aS.eval (.tmp 58) = .tuple #[.slice ra rn rc, .int .i64 0] := eR231_6
   exact Does.val (wn _ rfl) (o_ex (eR231_6) rfl) (Gr.refl _) rfl rfl)
 have dO := dM.snoc (n' := 10) rfl (fun vJ wJ => ∃ (ra : Option Addr) (rn : Nat) (rc : Nat), vJ = .slice ra rn rc ∧ (ResV c wJ (.slice ra rn rc) (putL S.L y.d))) rfl (fun _ _ _ g ⟨ra, rn, rc, h, C⟩ => ⟨ra, rn, rc, h, C.gr0 g⟩) (fun aS wS pS => by
   obtain ⟨ra, rn, rc, eR231_7, hr⟩ := pS.pre 7 rfl
   have eR231_7 : aS.eval (.tmp 65) = .slice ra rn rc := eR231_7
   exact Does.val (wn _ rfl) (o_as (eR231_7)) (Gr.refl _) ⟨ra, rn, rc, rfl, hr⟩ rfl)
 have dS := dO.snoc (n' := 11) rfl (fun vJ _ => vJ = .int .i64 0) rfl (fun _ _ _ _ h => h) (fun aS wS pS => by
   have eR231_8 : aS.eval (.tmp 66) = .int .i64 0 := pS.pre 8 rfl
   exact Does.val (wn _ rfl) (o_as (eR231_8)) (Gr.refl _) rfl rfl)
 refine dS.run (k := 0) (L := #[true, true, true, true, true, true, true, true, true, true, true]) (by kernel_rfl) (by kernel_rfl) (by kernel_rfl) ax.ok (by kernel_rfl) (by kernel_rfl) (fun ap235 bj D => ?_)
 have a4 := gr_drew D.gr
 have dT := bi.gr a4
 have dU := bS.gr a4
 have bX := bO.gr a4
 have dV := gb_gr dy a4
 obtain ⟨ra, rn, rc, ep235_9, hr⟩ := D.js 9 rfl
 have ep235_9 : ap235.eval (.tmp 14) = .slice ra rn rc := ep235_9
 refine wpAny_done (by kernel_rfl) ?_ _
 refine th_n (dA _ _ (wp_seq_k (fun gm dW => (wp_seq_k (fun gn dX => (wp_region_lit ?_))))))
 have ep235_10 : ap235.eval (.tmp 13) = .int .i64 0 := D.js 10 rfl
 refine sw D.ok (o_mv ep235_10) (fun go ay => ?_)
 refine sw ay.ok (o_neq (b := false) ay.at_ ev_const (by decide)) (fun gp az => ?_)
 refine wpList_nil (th_n (dX _ _ (wp_cond_false (az.at_) ?_)))
 refine wp_skip (th_n (dW _ _ (wp_seq_k (fun gq dY => (h_start [b] 12 #[false, false, false, false, false, false, false, false, false, false, false, false] (by kernel_rfl) rfl rfl ?_)))))
 have S254 := Sx.drew [b] bj
 have aU := (Gr.refl bj).drew
 generalize bj.drew = gs at *
 have bY := dT.gr aU
 have dZ := dU.gr aU
 have d0 := bX.gr aU
 have d1 := gb_gr dV aU
 have d2 := hr.gr0 aU
 have bZ := az.n (ay.n ((D.old 0 rfl).trans bV))
 refine h_take (i := 0) (fuel := 11) az.ok rfl rfl rfl (by kernel_rfl) (by kernel_rfl) (by kernel_rfl) (fun _ _ _ _ _ h => h) (wn _ rfl) (fun x hx => o_mv bZ) S254 (fun gt aA => ?_)
 refine h_take (i := 1) (fuel := 10) aA.ok rfl rfl rfl (by kernel_rfl) (by kernel_rfl) (by kernel_rfl) (fun _ _ _ _ _ h => h) (wn _ rfl) (fun x hx => o_mv (aA.n bZ)) S254 (fun gu aB => ?_)
 have d3 := aB.n (aA.n (az.n (ay.n ep235_9)))
 refine h_take (i := 2) (fuel := 9) aB.ok rfl rfl rfl (by kernel_rfl) (by kernel_rfl) (by kernel_rfl) (fun _ _ _ _ _ h => h) (wn _ rfl) (fun x hx => o_mv d3) S254 (fun gx aC => ?_)
 have b0 := aC.n (aB.n (aA.n (az.n (ay.n ((D.old 10 rfl).trans bW)))))
 refine h_take (i := 3) (fuel := 8) aC.ok rfl rfl rfl (by kernel_rfl) (by kernel_rfl) (by kernel_rfl) (fun _ _ _ _ _ h => h) (wn _ rfl) (fun x hx => o_fa (z := 2) b0 Tryz.underlying106 rfl (by kernel_rfl) rfl rfl) S254 (fun gy E => ?_)
 refine h_take (i := 4) (fuel := 7) E.ok rfl rfl rfl (by kernel_rfl) (by kernel_rfl) (by kernel_rfl) (fun _ _ _ _ _ h => h) (wn _ rfl) (fun x hx => o_fa (z := 1) E.at_ Tryz.underlying51 rfl (by kernel_rfl) rfl rfl) S254 (fun gz F => ?_)
 refine h_take (i := 5) (fuel := 6) F.ok rfl rfl rfl (by kernel_rfl) (by kernel_rfl) (by kernel_rfl) (fun _ _ _ _ _ h => h) (wn _ rfl) (fun x hx => o_ld F.at_ (Tryz.isAgg3 _) ((Sx.bk hx bX (by simp <;> omega)).cell _ rfl)) S254 (fun gA G => ?_)
 have d4 := G.n (F.n (E.n (aC.n (aB.n aA.at_))))
 refine h_take (i := 6) (fuel := 5) G.ok rfl rfl rfl (by kernel_rfl) (by kernel_rfl) (by kernel_rfl) (fun _ _ _ _ _ h => h) (wn _ rfl) (fun x hx => o_nc d4) S254 (fun gB H => ?_)
 refine h_take (i := 7) (fuel := 4) H.ok rfl rfl rfl (by kernel_rfl) (by kernel_rfl) (by kernel_rfl) (fun _ _ _ _ _ h => h) (wn _ rfl) (fun x hx => o_fa (z := 1) H.at_ Tryz.underlying125 rfl (by kernel_rfl) rfl rfl) S254 (fun gC I => ?_)
 have d5 := I.n (H.n (G.n (F.n (E.n aC.at_))))
 refine h_stC (i := 8) (fuel := 3) (by kernel_rfl) rfl rfl (wn _ rfl) (o_st I.at_ d5 bY rfl (by kernel_rfl) rfl) bY S254 (by simp) (fun gD a6 b1 S284 => ?_)
 have d6 := dZ.upd a6 (Nat.ne_of_gt a8)
 have d7 := d0.upd a6 (Nat.ne_of_gt aG)
 have d8 := gb_gb d1 a6.grown
 have d9 := d2.updL a6 bU
 have fb := I.n (H.n (G.n (F.n (E.n (aC.n aB.at_)))))
 refine h_take (i := 9) (fuel := 2) I.ok rfl rfl rfl (by kernel_rfl) (by kernel_rfl) (by kernel_rfl) (fun _ _ _ _ _ h => h) (wn _ rfl) (fun x hx => o_nc fb) S284 (fun gE aV => ?_)
 refine h_take (i := 10) (fuel := 1) aV.ok rfl rfl rfl (by kernel_rfl) (by kernel_rfl) (by kernel_rfl) (fun _ _ _ _ _ h => h) (wn _ rfl) (fun x hx => o_fa (z := 1) aV.at_ Tryz.underlying125 rfl (by kernel_rfl) rfl rfl) S284 (fun gF aW => ?_)
 have ff := aW.n (aV.n (I.n (H.n G.at_)))
 refine h_stC (i := 11) (fuel := 0) (by kernel_rfl) rfl rfl (wn _ rfl) (o_st aW.at_ ff b1 rfl (by kernel_rfl) rfl) b1 S284 (by simp) (fun gG a7 fg S302 => ?_)
 have b2 := d6.upd a7 (Nat.ne_of_gt a8)
 have fh := d7.upd a7 (Nat.ne_of_gt aG)
 have fi := gb_gb d8 a7.grown
 have fj := d9.updL a7 bU
 refine wpAnyH_done (by kernel_rfl) ?_ _
 refine th_n (dY _ _ (wp_seq_k (fun gH fk => (wp_region_lit ?_))))
 have fl := aW.n (aV.n (I.n (H.n (G.n (F.n (E.n b0))))))
 refine sw aW.ok (o_fa (z := 2) fl Tryz.underlying106 rfl (by kernel_rfl) rfl rfl) (fun gI bl => ?_)
 refine sw bl.ok (o_ldA (k := 1) (cs := [.int .i64 ((S.me : Nat) : Int), .int .i64 ((S.made + 1 : Nat) : Int)]) bl.at_ (bk_part fh rfl) Tryz.underlying51 rfl (by kernel_rfl)) (fun gJ bm => ?_)
 have b4 := bm.n (bl.n (aW.n (aV.n (I.n (H.n (G.n (F.n (E.n (aC.n (aB.n (aA.n (az.n (ay.n ((D.old 8 rfl).trans (ax.n (A.n (u.n (av.n (au.n (ar.n (aq.n (ap.n (ao.n (am.n (al.n (ak.n (q.n (aj.n (ai.n (ah.n (aJ.n (ag.n (af.n (ad.n (ac.n (ab.n (aa.n (Z.n (Y.n (X.n (W.n (V.n (U.n (T.n (O.n (M.n ((B.old 8 rfl).trans (K.n J.at_))))))))))))))))))))))))))))))))))))))))))))))))
 refine ssR rfl (wn _ rfl) (o_stR b4 bm.at_ b2 (by kernel_rfl) rfl (by first | (simp [Value.oneCell']; done) | (rw [← Array.all_toList]; simp [Value.oneCell']))) b2 (fun gK bn fm => ?_)
 have b5 := fg.upd bn (Nat.ne_of_lt a8)
 have bo := gb_upd fi bn cf
 have b6 := fj.updL bn dB
 refine sw bm.ok (o_as ev_const) (fun gL bp => ?_)
 refine wpList_nil (th_n (fk _ _ (wp_ret (ret2 bp.ok rfl (⟨_, _, (bp.n b4), ld_row fm Tryz.underlying51 rfl (by kernel_rfl)⟩) (bp.at_) ⟨rfl, ⟨fa, fn, fc, ra, rn, rc, la, lc, b5, hF.tk (hS0.tk bo).p, (hyd ▸ b6).any, hP.tkw (hS0.tk bo)⟩, ⟨fa, fn, fc, sa, sn, sq, la, lc, ra, rn, rc, hb, b5, (hyd ▸ b6).lower hz3⟩, bo⟩))))
end Go.Proofs.YtglbnggkkjhokaaGreat
/- Site: Give. -/
namespace Rm
open Go Go.RowKit Gx
def encGn (x : VerI) : List Value := [.string (bs x.d.id), .slice x.va x.d.V.length x.vc, .slice x.ma x.d.M.length x.mc]
end Rm
namespace Go.Proofs.YtglbnggkkjhokaaGreat
open Go.RowKit Rm Gx
def GL (base : Nat) (w : World) (v : Value) (K : List VerI) : Prop := w.ownsRow base 77 3 v K.length (flatE encGn K) ∧ OwnsVr base w K
theorem take_snoc {α : Type} {L : List α} {i : Nat} {x : α} (h : L[i]? = some x) : L.take (i + 1) = L.take i ++ [x] := by
 rw [List.take_add_one, h]
 rfl
end Go.Proofs.YtglbnggkkjhokaaGreat
/- A site that makes versions. -/
namespace Go.Proofs.YtglbnggkkjhokaaGreat
open Go.RowKit Rm Gx
structure MkI (S : SiD) : Prop where
  ok : SiOk S
  made : S.made ≤ 40
  len : S.L.length ≤ S.made
  own : ∀ x ∈ S.L, x.s = (S.me : Int) ∧ 1 ≤ x.c ∧ x.c ≤ (S.made : Int)
  from_ : ∀ x ∈ S.L, ∀ s c, dsV x s c = true → s = S.me ∧ 1 ≤ c ∧ c ≤ S.made
theorem MkI.new {me : Nat} {T : Nat → Nat} (h : me < 5) : MkI ⟨me, 0, 0, T, [], []⟩ where
 ok := ⟨h, Nat.zero_le _, Nat.zero_le _, ⟨Nat.zero_le _, fun x hx => (by cases hx), List.Pairwise.nil, fun x hx => (by cases hx)⟩, Nat.zero_le _⟩
 made := Nat.zero_le _
 len := Nat.le_refl _
 own := fun x hx => (by cases hx)
 from_ := fun x hx => (by cases hx)
theorem MkI.pd {S : SiD} (h : MkI S) {id : List UInt8} {s c : Nat} (q : pD S.L id s c = true) : s = S.me ∧ 1 ≤ c ∧ c ≤ S.made := by
 obtain ⟨x, hx, -, h1 | ⟨h1, h2⟩⟩ := pD_of q
 ·exact h.from_ x hx s c h1
 ·obtain ⟨e1, e2, e3⟩ := h.own x hx
  omega
theorem MkI.few {S : SiD} (h : MkI S) (id : List UInt8) : (formM (pD S.L id)).length ≤ 60 := by
 have hme := h.ok.me
 have hmd := h.made
 have key : ∀ s c, s < 5 → c ≤ 1000 → pD S.L id s c = true → 1 ≤ c ∧ c ≤ cv (setC [] S.me S.made) s := fun s c hs hc q => by
  obtain ⟨e, h1, h2⟩ := h.pd q
  rw [cv_setC _ _ _ _ hme hs, if_pos e]
  exact ⟨h1, h2⟩
 refine form_sum key ?_
 have e : ∀ s, s < 5 → cv (setC [] S.me S.made) s = if s = S.me then S.made else 0 := fun s hs => by
  rw [cv_setC _ _ _ _ hme hs]
  split <;> simp [cv]
 rw [e 0 (by omega), e 1 (by omega), e 2 (by omega), e 3 (by omega), e 4 (by omega)]
 have : S.me = 0 ∨ S.me = 1 ∨ S.me = 2 ∨ S.me = 3 ∨ S.me = 4 := by omega
 rcases this with q | q | q | q | q <;> rw [q] <;> simp <;> omega
theorem newD_ds (S : SiD) (id : List UInt8) (t n d : Int) (a q : Nat) : dsV (newD S id t n d) a q = memB (formV (pD S.L id)) (formM (pD S.L id)) a q := by
 unfold dsV newD
 simp only [ints_nat, pairs_nat]
theorem MkI.nds {S : SiD} (h : MkI S) {id : List UInt8} {t n d : Int} {a q : Nat} (hq : dsV (newD S id t n d) a q = true) : a = S.me ∧ 1 ≤ q ∧ q ≤ S.made := by
 rw [newD_ds] at hq
 have hi := (form_ok (pD S.L id)).inR hq
 rw [form_mem (pD S.L id) a q hi] at hq
 exact h.pd hq
theorem MkI.one {S : SiD} (h : MkI S) {id : List UInt8} {t n d : Int} (hid : idB id = true) (ht : 0 ≤ t ∧ t < 16) (hn : 0 ≤ n ∧ n < 32) (hd : 0 ≤ d ∧ d ≤ 1000000) : chkOne (newD S id t n d) = 0 := by
 have hme := h.ok.me
 have hmd := h.made
 have h1 : idB (newD S id t n d).id = true := hid
 have h2 : argB (newD S id t n d) = true := by
  unfold argB newD
  have d1 : dotB ((S.me : Int), ((S.made + 1 : Nat) : Int)) = true := by rw [dotB_iff]; simp only; omega
  have d2 : ptB t n = true := by rw [ptB_iff]; omega
  simp only [d1, d2, Bool.true_and, Bool.and_eq_true, decide_eq_true_eq]
  omega
 have h3 : chkK (newD S id t n d).V (newD S id t n d).M = 0 := by unfold newD; simp only; exact (form_ok _).chk (h.few id)
 have h4 : memI (newD S id t n d).V (newD S id t n d).M (newD S id t n d).s (newD S id t n d).c = false := by
  cases q : memI (newD S id t n d).V (newD S id t n d).M (newD S id t n d).s (newD S id t n d).c
  ·rfl
  ·exfalso
   have q' : dsV (newD S id t n d) (newD S id t n d).s.toNat (newD S id t n d).c.toNat = true := q
   obtain ⟨-, -, e⟩ := h.nds q'
   have : (newD S id t n d).c.toNat = S.made + 1 := by unfold newD; simp only; exact Int.toNat_natCast _
   omega
 unfold chkOne
 rw [if_neg (by rw [h1]; simp), if_neg (by rw [h2]; simp), if_neg (by rw [h3]; simp), if_neg (by rw [h4]; simp)]
theorem MkI.held {S : SiD} (h : MkI S) (id : List UInt8) (t n d : Int) : svHeld S.L (newD S id t n d) = false := by
 cases q : svHeld S.L (newD S id t n d)
 ·rfl
 exfalso
 have ec : (newD S id t n d).c = ((S.made + 1 : Nat) : Int) := rfl
 unfold svHeld at q
 rw [Bool.or_eq_true] at q
 rcases q with q | q
 ·obtain ⟨x, hx, e⟩ := List.any_eq_true.1 q
  rw [decide_eq_true_eq, cmpV_eq] at e
  have e2 := e.2.2
  rw [ec] at e2
  have := h.own x hx
  omega
 ·obtain ⟨x, hx, e⟩ := List.any_eq_true.1 q
  obtain ⟨-, -, e2⟩ := h.from_ x hx _ _ ((ovB_iff _ _).1 e).2
  rw [ec] at e2
  omega
theorem MkI.kl {S : SiD} (h : MkI S) (y : VerD) : (svKeep S.L y).length ≤ S.made := Nat.le_trans (List.length_filter_le _ _) h.len
theorem MkI.put {S : SiD} (h : MkI S) {id : List UInt8} {t n d : Int} (hone : chkOne (newD S id t n d) = 0) : putE S.L (newD S id t n d) = 0 ∧ putL S.L (newD S id t n d) = svIns (svKeep S.L (newD S id t n d)) (newD S id t n d) := by
 have hk := h.kl (newD S id t n d)
 have hmd := h.made
 have hh : ¬ svHeld S.L (newD S id t n d) = true := by rw [h.held]; simp
 have hl : ¬ (svKeep S.L (newD S id t n d)).length = 60 := by omega
 unfold putE putL
 rw [if_pos ((okS_iff _).2 h.ok.ok), if_pos ((okS_iff _).2 h.ok.ok), if_pos hone, if_pos hone, if_neg hh, if_neg hh, if_neg hl, if_neg hl]
 exact ⟨rfl, rfl⟩
theorem MkI.step {S : SiD} (h : MkI S) {id : List UInt8} {t n d : Int} (hone : chkOne (newD S id t n d) = 0) (hm : S.made < 40) : MkI (mkS S id t n d) := by
 have hk := h.kl (newD S id t n d)
 have hp := (h.put hone).2
 have hmem : ∀ x, x ∈ (mkS S id t n d).L → x = newD S id t n d ∨ x ∈ S.L := fun x hx => by
  have hx : x ∈ putL S.L (newD S id t n d) := hx
  rw [hp] at hx
  rcases svIns_mem.1 hx with hx | hx
  ·exact .inl hx
  ·exact .inr (List.mem_filter.1 hx).1
 have e : (mkS S id t n d).made = S.made + 1 := rfl
 have em : (mkS S id t n d).me = S.me := rfl
 refine ⟨⟨h.ok.me, by rw [e]; omega, h.ok.st, ?_, h.ok.few⟩, by rw [e]; omega, ?_, fun x hx => ?_, fun x hx s c hq => ?_⟩
 ·show OkS (putL S.L (newD S id t n d))
  rw [hp]
  exact svPut_ok h.ok.ok hone (h.held ..) (by omega)
 ·show (putL S.L (newD S id t n d)).length ≤ S.made + 1
  rw [hp, svIns_len]
  omega
 ·rw [e, em]
  rcases hmem x hx with rfl | hx
  ·refine ⟨rfl, ?_, Int.le_refl _⟩
   show 1 ≤ ((S.made + 1 : Nat) : Int)
   omega
  ·have := h.own x hx
   omega
 ·rw [e, em]
  rcases hmem x hx with rfl | hx
  ·have := h.nds hq
   omega
  ·have := h.from_ x hx s c hq
   omega
end Go.Proofs.YtglbnggkkjhokaaGreat
/- As GxM: what the call leaves keeps clear of the block that is made meanwhile. -/
namespace Gx
open Go Go.RowKit Rm
section
variable {P : Program} {ops : Array Oper} {Q : Exit → Act → World → Prop} {N : Nat} {a₀ : Act} {w₀ : World} {hs : List Nat} {r : Option Nat} {c : Nat} {Z : Nat → World → Prop}
structure RegN (P : Program) (ops : Array Oper) (Q : Exit → Act → World → Prop) (N : Nat) (a₀ : Act) (w₀ : World) (r : Option Nat) (c : Nat) (Z : Nat → World → Prop) (hs : List Nat) (n : Nat) (js : Js) : Prop where
 back : backs ops = true
 top : ∀ i, n ≤ i → jAt js i = fun _ _ => True
 mono : ∀ i v w w', i ≠ c → w.grownBy w' r → jAt js i v w → jAt js i v w'
 monoC : ∀ v w w', Gr w w' → jAt js c v w → jAt js c v w'
 does : ∀ i o, i < n → hd hs i = true → i ≠ c → ops[i]? = some o → ∀ a w, PreM ops hs js N a₀ w₀ r c i o a w → Does P ops Q (jAt js i) o a w
 doesC : ∀ o, c < n → hd hs c = true → ops[c]? = some o → ∀ a w, PreM ops hs js N a₀ w₀ r c c o a w → DoesC P ops Q r (fun v w' => jAt js c v w' ∧ ∀ b, w₀.heap.size ≤ b → b < w.heap.size → Z b w') o a w
theorem RegN.nil (hb : backs ops = true) : RegN P ops Q N a₀ w₀ r c Z hs 0 [] := ⟨hb, fun _ _ => rfl, fun i v w w' _ _ _ => trivial, fun v w w' _ _ => trivial, fun i o h => absurd h (Nat.not_lt_zero _), fun o h => absurd h (Nat.not_lt_zero _)⟩
theorem RegN.snoc {n n' : Nat} {js : Js} (R : RegN P ops Q N a₀ w₀ r c Z hs n js) (hn : n + 1 = n') (hc : Nat.beq n c = false) (J : Value → World → Prop) {o : Oper} (ho : ops[n]? = some o) (hm : ∀ v w w', w.grownBy w' r → J v w → J v w')
  (h : ∀ a w, PreM ops hs js N a₀ w₀ r c n o a w → Does P ops Q J o a w) : RegN P ops Q N a₀ w₀ r c Z hs n' ((n, J) :: js) where
 back := R.back
 top i hi := by rw [jAt_ne (by omega)]; exact R.top i (by omega)
 mono i v w w' hic g hj := by
  by_cases q : n = i
  ·subst q; rw [jAt_eq] at *; exact hm v w w' g hj
  ·rw [jAt_ne q] at *; exact R.mono i v w w' hic g hj
 monoC v w w' g hj := by
  rw [jAt_ne (Nat.ne_of_beq_eq_false hc)] at *; exact R.monoC v w w' g hj
 does i o' hi hh hic ho' a w p := by
  have p' := prem_drop R.back (by omega) ho' p
  by_cases q : n = i
  ·subst q
   rw [jAt_eq]
   obtain rfl : o = o' := Option.some.inj (ho.symm.trans ho')
   exact h a w p'
  ·rw [jAt_ne q]
   exact R.does i o' (by omega) hh hic ho' a w p'
 doesC o' hi hh ho' a w p := by
  have p' := prem_drop R.back (by omega) ho' p
  have q := Nat.ne_of_beq_eq_false hc
  simp only [jAt_ne q]
  exact R.doesC o' (by omega) hh ho' a w p'
theorem RegN.snocC {n n' : Nat} {js : Js} (R : RegN P ops Q N a₀ w₀ r c Z hs n js) (hn : n + 1 = n') (hc : n = c) (J : Value → World → Prop) {o : Oper} (ho : ops[n]? = some o) (hm : ∀ v w w', Gr w w' → J v w → J v w')
  (h : ∀ a w, PreM ops hs js N a₀ w₀ r c n o a w → DoesC P ops Q r (fun v w' => J v w' ∧ ∀ b, w₀.heap.size ≤ b → b < w.heap.size → Z b w') o a w) : RegN P ops Q N a₀ w₀ r c Z hs n' ((n, J) :: js) where
 back := R.back
 top i hi := by rw [jAt_ne (by omega)]; exact R.top i (by omega)
 mono i v w w' hic g hj := by
  rw [jAt_ne (by omega)] at *; exact R.mono i v w w' hic g hj
 monoC v w w' g hj := by
  subst hc; rw [jAt_eq] at *; exact hm v w w' g hj
 does i o' hi hh hic ho' a w p := by
  have p' := prem_drop R.back (by omega) ho' p
  rw [jAt_ne (by omega)]
  exact R.does i o' (by omega) hh hic ho' a w p'
 doesC o' hi hh ho' a w p := by
  have p' := prem_drop R.back (by omega) ho' p
  subst hc
  simp only [jAt_eq]
  obtain rfl : o = o' := Option.some.inj (ho.symm.trans ho')
  exact h a w p'
theorem RegN.skip {n n' : Nat} {js : Js} (R : RegN P ops Q N a₀ w₀ r c Z hs n js) (hn : n + 1 = n') (hc : Nat.beq n c = false) (hh : hd hs n = false) : RegN P ops Q N a₀ w₀ r c Z hs n' js where
 back := R.back
 top i hi := R.top i (by omega)
 mono := R.mono
 monoC := R.monoC
 does i o' hi hh' hic ho' a w p := by
  by_cases q : n = i
  ·subst q; rw [hh] at hh'; cases hh'
  ·exact R.does i o' (by omega) hh' hic ho' a w p
 doesC o' hi hh' ho' a w p := R.doesC o' (by have := Nat.ne_of_beq_eq_false hc; omega) hh' ho' a w p
theorem regn_start {id : Nat} {a : Act} {w : World} (hs : List Nat) (r : Option Nat) (c : Nat) (Z : Nat → World → Prop) (hb : backs ops = true) (h : RegN P ops Q N a w.drew r c Z hs 0 [] → (Code.region id ops true).wp P Q a w) : (Code.region id ops true).wp P Q a w := h (RegN.nil hb)
structure WayN (Z : Nat → World → Prop) (ops : Array Oper) (hs : List Nat) (r : Option Nat) (c f : Nat) (z : Array Value) (ty : TypeId) (js : Js) (N : Nat) (a₀ : Act) (w₀ : World) (U : List Nat) (L : Array Bool) (a : Act) (w : World) : Prop where
 ok : Ok N a
 gr : w₀.grownBy w r
 gr0 : L.getD c false = false → Gr w₀ w
 old : ∀ t, (fdH ops (f :: hs)).all (fun d => !Nat.beq t d) = true → a.eval (.tmp t) = a₀.eval (.tmp t)
 size : L.size = ops.size
 closed : Closed ops L
 nodup : U.Nodup
 un : ∀ j, hd hs j = true → (L.getD j false = false ↔ j ∈ U)
 lt : ∀ j ∈ U, hd hs j = true
 tail : ∀ j, hd hs j = false → j ≠ f → L.getD j false = false
 made : L.getD f false = true → ∃ b, a.eval (.tmp (dstAt ops f)) = .pointer (some ⟨b, 0, none⟩) ∧ w₀.heap.size ≤ b ∧ Bk w b z ty ∧ (L.getD c false = true → Z b w)
 js : ∀ j, hd hs j = true → L.getD j false = true → jAt js j (a.eval (.tmp (dstAt ops j))) w
theorem RegN.wayN {n : Nat} {js : Js} {f : Nat} {z : Array Value} {ty : TypeId} (R : RegN P ops Q N a₀ w₀ r c Z (f :: hs) n js) (hr : ∀ k, r = some k → k < w₀.heap.size) (hfc : Nat.beq f c = false) (hcs : hd hs c = true) (hZ : ∀ b w w', Gr w w' → Z b w → Z b w') (hZ1 : ∀ v w, jAt js c v w → Z w.heap.size (w.alloc (.cells z ty))) (hn0 : n = ops.size) (hsh : shapeF ops hs f = true) (hN : ((f :: hs).all fun i => Nat.blt (dstAt ops i) N) = true) (k : Nat)
  (hrun : ∀ (o : Oper) (a : Act) (w : World), ops[f]? = some o → (execOp a.eval o).run P w = .ok (.value (.pointer (some ⟨w.heap.size, 0, none⟩))) (w.alloc (.cells z ty)))
  (hend : ∀ a w, PostM ops hs r f js N a₀ w₀ a w → wpAny P .any ops Q (k + 1) (firstsH ops.size hs) a w ∧ True)
  (hend2 : ∀ a w b, PostM ops hs r f js N a₀ w₀ a w → a.eval (.tmp (dstAt ops f)) = .pointer (some ⟨b, 0, none⟩) → w₀.heap.size ≤ b → Bk w b z ty → Z b w → wpAny P .any ops Q k (firstsH ops.size (f :: hs)) a w) :
  ∀ (U : List Nat) (L : Array Bool) (a : Act) (w : World), WayN Z ops hs r c f z ty js N a₀ w₀ U L a w → wpAny P .any ops Q (U.length + (if L.getD f false = true then k else k + 1)) L a w := by
 obtain ⟨hdd0, hdd, hdf, hff, ⟨of, hof, hofd, hofg, hofa⟩, ht⟩ := shapeF_spec hsh
 subst hn0
 have hb := backs_spec R.back
 have hfs : f < ops.size := (Array.getElem?_eq_some_iff.1 hof).1
 have main : ∀ m U L a w, U.length + (if L.getD f false = true then 0 else 1) = m → WayN Z ops hs r c f z ty js N a₀ w₀ U L a w → wpAny P .any ops Q (U.length + (if L.getD f false = true then k else k + 1)) L a w := by
  intro m
  induction m with
  | zero =>
   intro U L a w hm W
   have hU : U = [] := List.eq_nil_of_length_eq_zero (by split at hm <;> omega)
   subst hU
   cases hLf : L.getD f false
   ·rw [hLf] at hm; simp at hm
   ·have hall : ∀ j, hd hs j = true → L.getD j false = true := fun j hj => by
     have := (W.un j hj)
     cases e : L.getD j false
     ·rw [e] at this; exact absurd (this.1 rfl) (by simp)
     ·rfl
    have hL : L = firstsH ops.size (f :: hs) := by
     apply Array.ext
     ·simp [firstsH, W.size]
     ·intro i h1 h2
      have e1 : L[i] = L.getD i false := by simp [Array.getD, h1]
      rw [e1]
      simp only [firstsH, List.getElem_toArray, List.getElem_map, List.getElem_range]
      have e2 : hd (f :: hs) i = (Nat.beq f i || hd hs i) := by simp [hd]
      rw [e2]
      cases q : hd hs i
      ·by_cases e : f = i
       ·subst e; rw [hLf]; simp
       ·rw [W.tail i q (fun h => e h.symm)]
        have : Nat.beq f i = false := by
         cases e3 : Nat.beq f i
         ·rfl
         ·exact absurd (Nat.eq_of_beq_eq_true e3) e
        rw [this]; rfl
      ·rw [hall i q]; simp
    obtain ⟨b, m1, m2, m3, m4⟩ := W.made hLf
    have := hend2 a w b ⟨W.ok, W.gr, W.old, fun j hj => W.js j hj (hall j hj)⟩ m1 m2 m3 (m4 (hall c hcs))
    rw [← hL] at this
    simpa using this
  | succ m ih =>
   intro U L a w hm W
   by_cases hUn : U = []
   ·subst hUn
    cases hLf : L.getD f false
    ·have hall : ∀ j, hd hs j = true → L.getD j false = true := fun j hj => by
      have := (W.un j hj)
      cases e : L.getD j false
      ·rw [e] at this; exact absurd (this.1 rfl) (by simp)
      ·rfl
     have hL : L = firstsH ops.size hs := by
      apply Array.ext
      ·simp [firstsH, W.size]
      ·intro i h1 h2
       have e1 : L[i] = L.getD i false := by simp [Array.getD, h1]
       rw [e1]
       simp only [firstsH, List.getElem_toArray, List.getElem_map, List.getElem_range]
       cases q : hd hs i
       ·by_cases e : i = f
        ·subst e; exact hLf
        ·exact W.tail i q e
       ·exact hall i q
     have := (hend a w ⟨W.ok, W.gr, W.old, fun j hj => W.js j hj (hall j hj)⟩).1
     rw [← hL] at this
     simpa using this
    ·rw [hLf] at hm; simp at hm
   ·have hpos : 0 < U.length := by cases U with
     | nil => exact absurd rfl hUn
     | cons _ _ => simp
    have hfuel : U.length + (if L.getD f false = true then k else k + 1) = (U.length - 1 + (if L.getD f false = true then k else k + 1)) + 1 := by omega
    rw [hfuel]
    have hne : Region.ready .any ops L ≠ [] := by
     obtain ⟨u, hu⟩ : ∃ u, u ∈ U := List.exists_mem_of_length_pos hpos
     have hlu := W.lt u hu
     have hex : ∃ k, hd hs k = true ∧ L.getD k false = false := ⟨u, hlu, (W.un u hlu).2 hu⟩
     obtain ⟨k, ⟨hk1, hk2⟩, hk3⟩ := exists_least hex
     obtain ⟨o, ho, -, hcl⟩ := hdd0 k hk1
     have hki : k < L.size := by rw [W.size]; exact (Array.getElem?_eq_some_iff.1 ho).1
     have : k ∈ Region.ready .any ops L := by
      rw [mem_ready]
      refine ⟨by rw [getD_lt hki true false]; exact hk2, o, ho, fun e he hbd => ?_⟩
      have hlt := hb k o ho e he hbd
      cases q : L.getD e.on false
      ·have := hk3 e.on ⟨hcl e he hbd, q⟩; omega
      ·rfl
     intro e
     rw [e] at this
     cases this
    refine ⟨fun h => absurd h hne, fun i hi => ?_⟩
    obtain ⟨hil, o, ho, hall⟩ := mem_ready.1 hi
    have his : i < ops.size := (Array.getElem?_eq_some_iff.1 ho).1
    have hiL : i < L.size := by rw [W.size]; exact his
    have hil' : L.getD i false = false := by rw [getD_lt hiL false true]; exact hil
    by_cases hif : i = f
    ·-- the block is made
     subst hif
     obtain rfl : o = of := Option.some.inj (ho.symm.trans hof)
     have hdN : Nat.blt (dstAt ops i) N = true := List.all_eq_true.1 hN i (List.mem_cons_self ..)
     have nx := Nx.put W.ok hdN (.pointer (some ⟨w.heap.size, 0, none⟩))
     have nw := New.mk' w z ty
     unfold wpOp
     rw [ho]
     have hw : Region.wanted o (yielded ops a.tmps) = true := by unfold Region.wanted; rw [hofg]
     simp only [hw, if_true]
     left
     unfold Oper.wp
     rw [hrun o a w ho]
     show wpAny P .any ops Q _ _ (a.put o.dst _) _
     rw [hofd]
     have hset : (L.setIfInBounds i true).getD i false = true := by rw [getD_set hiL, if_pos rfl]
     have hih := ih U (L.setIfInBounds i true) (a.put (some (dstAt ops i)) (.pointer (some ⟨w.heap.size, 0, none⟩))) (w.alloc (.cells z ty)) (by rw [hset]; rw [hil'] at hm; simp at hm ⊢; omega) ?_
     ·rw [hset, if_pos rfl] at hih
      rw [hil']
      simp only [Bool.false_eq_true, if_false]
      rw [show U.length - 1 + (k + 1) = U.length + k by omega]
      exact hih
     ·refine ⟨nx.ok, gb_gr W.gr nw.gr, fun hcl => (W.gr0 (by rw [getD_set hiL, if_neg (Nat.ne_of_beq_eq_false hfc)] at hcl; exact hcl)).trans nw.gr, fun t htt => ?_, by simp [W.size], ?_, W.nodup, fun j hj => ?_, W.lt, fun j hj hjf => ?_, fun _ => ⟨w.heap.size, nx.at_, W.gr.size, nw.bk, fun hcl => hZ1 _ _ (W.js c hcs (by rw [getD_set hiL, if_neg (Nat.ne_of_beq_eq_false hfc)] at hcl; exact hcl))⟩, fun j hj hl => ?_⟩
      ·have := List.all_eq_true.1 htt _ (fd_cons ho (.inr rfl) hofd)
       rw [Bool.not_eq_true'] at this
       exact (nx.oth t this).trans (W.old t htt)
      ·intro j oj hj hoj e he hbd
       rw [getD_set hiL] at hj ⊢
       split
       ·rfl
       ·by_cases q : i = j
        ·subst q
         obtain rfl : o = oj := Option.some.inj (ho.symm.trans hoj)
         rw [hofa e he] at hbd; cases hbd
        ·rw [if_neg q] at hj
         exact W.closed j oj hj hoj e he hbd
      ·rw [getD_set hiL, if_neg (fun e => by subst e; rw [hff] at hj; cases hj)]
       exact W.un j hj
      ·rw [getD_set hiL, if_neg (fun e => hjf e.symm)]
       exact W.tail j hj hjf
      ·rw [getD_set hiL, if_neg (fun e => by subst e; rw [hff] at hj; cases hj)] at hl
       rw [nx.oth _ (by
        have := hdf j hj
        cases e : Nat.beq (dstAt ops j) (dstAt ops i)
        ·rfl
        ·exact absurd (Nat.eq_of_beq_eq_true e) this)]
       (by_cases qc : j = c)
       ·subst qc; exact R.monoC _ _ _ nw.gr (W.js j hj hl)
       ·exact R.mono j _ _ _ qc (gb_of nw.gr) (W.js j hj hl)
    ·have him : hd hs i = true := by
      cases q : hd hs i
      ·exfalso
       obtain ⟨u, hu⟩ : ∃ u, u ∈ U := List.exists_mem_of_length_pos hpos
       have hlu := W.lt u hu
       have h1 := reach_listed W.closed ops.size i u (fun o' ho' e he hbd => by
        obtain rfl : o = o' := Option.some.inj (ho.symm.trans ho')
        exact hall e he hbd) (ht i his q hif u hlu)
       rw [(W.un u hlu).2 hu] at h1
       cases h1
      ·rfl
     have hiU : i ∈ U := (W.un i him).1 hil'
     obtain ⟨o', ho', hdst, hcl⟩ := hdd0 i him
     obtain rfl : o = o' := Option.some.inj (ho.symm.trans ho')
     have him' : hd (f :: hs) i = true := hd_mem.2 (List.mem_cons_of_mem _ (hd_mem.1 him))
     have hpre : PreM ops (f :: hs) js N a₀ w₀ r c i o a w := ⟨W.ok, W.gr, fun e => W.gr0 (by rw [← e]; exact hil'), W.old, fun j hj => ?_⟩
     ·have hdN : Nat.blt (dstAt ops i) N = true := List.all_eq_true.1 hN i (List.mem_cons_of_mem _ (hd_mem.1 him))
      have next : ∀ v w', w.grownBy w' r → (i ≠ c → Gr w w') → (i = c → ∀ b, w₀.heap.size ≤ b → b < w.heap.size → Z b w') → jAt js i v w' → wpAny P .any ops Q (U.length - 1 + (if L.getD f false = true then k else k + 1)) (L.setIfInBounds i true) (a.put o.dst v) w' := by
       intro v w' g gN hZn hJ
       rw [hdst]
       have nx := Nx.put W.ok hdN v
       have hfl : (L.setIfInBounds i true).getD f false = L.getD f false := by rw [getD_set hiL, if_neg hif]
       have hlen : (U.erase i).length = U.length - 1 := List.length_erase_of_mem hiU
       have hih := ih (U.erase i) (L.setIfInBounds i true) (a.put (some (dstAt ops i)) v) w' (by rw [hfl, hlen]; omega) ?_
       ·rw [hfl, hlen] at hih
        exact hih
       ·refine ⟨nx.ok, gb_gb W.gr g, fun hcl => (by
         rw [getD_set hiL] at hcl
         by_cases q : i = c
         ·rw [if_pos q] at hcl; cases hcl
         ·rw [if_neg q] at hcl
          exact (W.gr0 hcl).trans (gN q)), fun t htt => ?_, by simp [W.size], ?_, W.nodup.erase _, ?_, fun j hj => W.lt j (List.mem_of_mem_erase hj), ?_, ?_, ?_⟩
        ·have := List.all_eq_true.1 htt _ (fd_cons ho (.inl him) hdst)
         rw [Bool.not_eq_true'] at this
         exact (nx.oth t this).trans (W.old t htt)
        ·intro k ok hk hok e he hbd
         rw [getD_set hiL] at hk ⊢
         split
         ·rfl
         ·by_cases q : i = k
          ·subst q
           obtain rfl : o = ok := Option.some.inj (ho.symm.trans hok)
           exact hall e he hbd
          ·rw [if_neg q] at hk
           exact W.closed k ok hk hok e he hbd
        ·intro j hj
         rw [getD_set hiL, W.nodup.mem_erase_iff]
         by_cases q : i = j
         ·subst q; simp
         ·rw [if_neg q, W.un j hj]
          exact ⟨fun h => ⟨fun e => q e.symm, h⟩, fun h => h.2⟩
        ·intro j hj hjf
         rw [getD_set hiL, if_neg (fun e => by subst e; rw [him] at hj; cases hj)]
         exact W.tail j hj hjf
        ·intro hl
         rw [hfl] at hl
         obtain ⟨b, m1, m2, m3, m4⟩ := W.made hl
         refine ⟨b, ?_, m2, m3.grown_ne g (fun k e => Nat.lt_of_lt_of_le (hr k e) m2), fun hcl => by
          by_cases q : i = c
          ·exact hZn q b m2 m3.lt
          ·rw [getD_set hiL, if_neg q] at hcl
           exact hZ _ _ _ (gN q) (m4 hcl)⟩
         rw [nx.oth _ (by
          have := hdf i him
          cases e : Nat.beq (dstAt ops f) (dstAt ops i)
          ·rfl
          ·exact absurd (Nat.eq_of_beq_eq_true e).symm this)]
         exact m1
        ·intro j hj hl
         by_cases q : i = j
         ·subst q
          rw [nx.at_]
          exact hJ
         ·rw [getD_set hiL, if_neg q] at hl
          have h1 := W.js j hj hl
          rw [nx.oth _ (by
           have := hdd i j him hj q
           cases e : Nat.beq (dstAt ops j) (dstAt ops i)
           ·rfl
           ·exact absurd (Nat.eq_of_beq_eq_true e) this)]
          (by_cases qc : j = c)
          ·subst qc; exact R.monoC _ _ _ (gN q) h1
          ·exact R.mono j _ _ _ qc g h1
      unfold wpOp
      rw [ho]
      by_cases qc : i = c
      ·have hdoes : DoesC P ops Q r (fun v w' => jAt js i v w' ∧ ∀ b, w₀.heap.size ≤ b → b < w.heap.size → Z b w') o a w := by
        subst qc
        exact R.doesC o his him' ho a w hpre
       unfold DoesC at hdoes
       obtain ⟨-, hdoes⟩ := hdoes
       by_cases hw : Region.wanted o (yielded ops a.tmps) = true
       ·rw [if_pos hw] at hdoes
        simp only [hw, if_true]
        left
        refine Oper.wp_mono ?_ hdoes
        rintro a' w' ⟨v, rfl, g, hj⟩
        exact next v w' g (fun e => absurd qc e) (fun _ => hj.2) hj.1
       ·rw [if_neg hw] at hdoes
        simp only [hw, if_false, Bool.false_eq_true]
        exact next undef w gb_self (fun _ => Gr.refl w) (fun _ => hdoes.2) hdoes.1
      ·have hdoes := R.does i o his him' qc ho a w hpre
       unfold Does at hdoes
       by_cases hw : Region.wanted o (yielded ops a.tmps) = true
       ·rw [if_pos hw] at hdoes
        simp only [hw, if_true]
        left
        refine Oper.wp_mono ?_ hdoes
        rintro a' w' ⟨v, rfl, g, hj, -⟩
        exact next v w' (gb_of g) (fun _ => g) (fun e => absurd e qc) hj
       ·rw [if_neg hw] at hdoes
        simp only [hw, if_false, Bool.false_eq_true]
        exact next undef w gb_self (fun _ => Gr.refl w) (fun e => absurd e qc) hdoes.1
     ·unfold waits at hj
      obtain ⟨e, he, hh⟩ := List.any_eq_true.1 hj
      have he : e ∈ o.after := by simpa using he
      simp only [Bool.and_eq_true] at hh
      have h2 := Nat.eq_of_beq_eq_true hh.2
      have h3 := hall e he hh.1
      have hjh := hcl e he hh.1
      rw [h2] at h3 hjh
      exact W.js j hjh h3
 exact fun U L a w W => main _ U L a w rfl W
end
structure SN (N : Nat) (ap : Act) (wp w₀ : World) (df d0 d1 : Nat) (v0 v1 : Value) (z : Array Value) (ty : TypeId) (Y : Nat → Prop) (b0 b1 bf : Bool) (a : Act) (w : World) : Prop where
 ok : Ok N a
 old : ∀ t, Nat.beq t d0 = false → Nat.beq t d1 = false → Nat.beq t df = false → a.eval (.tmp t) = ap.eval (.tmp t)
 e0 : b0 = true → a.eval (.tmp d0) = v0
 e1 : b1 = true → a.eval (.tmp d1) = v1
 wn : bf = false → w = wp
 wf : bf = true → Gr wp w ∧ ∃ b, a.eval (.tmp df) = .pointer (some ⟨b, 0, none⟩) ∧ (w₀.heap.size ≤ b ∧ Y b) ∧ Bk w b z ty
section
variable {N : Nat} {ap : Act} {wp w₀ : World} {df d0 d1 : Nat} {v0 v1 : Value} {z : Array Value} {ty : TypeId} {Y : Nat → Prop} {b0 b1 bf : Bool} {a : Act} {w : World}
theorem SN.p0 (h : SN N ap wp w₀ df d0 d1 v0 v1 z ty Y b0 b1 bf a w) (hN : Nat.blt d0 N = true) (h01 : Nat.beq d1 d0 = false) (h0f : Nat.beq df d0 = false) : SN N ap wp w₀ df d0 d1 v0 v1 z ty Y true b1 bf (a.put (some d0) v0) w := by
 have nx := Nx.put h.ok hN v0
 exact ⟨nx.ok, fun t q0 q1 qf => (nx.oth t q0).trans (h.old t q0 q1 qf), fun _ => nx.at_, fun q => (nx.oth _ h01).trans (h.e1 q), h.wn, fun q => by
  obtain ⟨g, b, h1, h2, h3⟩ := h.wf q
  exact ⟨g, b, (nx.oth _ h0f).trans h1, h2, h3⟩⟩
theorem SN.p1 (h : SN N ap wp w₀ df d0 d1 v0 v1 z ty Y b0 b1 bf a w) (hN : Nat.blt d1 N = true) (h01 : Nat.beq d0 d1 = false) (h0f : Nat.beq df d1 = false) : SN N ap wp w₀ df d0 d1 v0 v1 z ty Y b0 true bf (a.put (some d1) v1) w := by
 have nx := Nx.put h.ok hN v1
 exact ⟨nx.ok, fun t q0 q1 qf => (nx.oth t q1).trans (h.old t q0 q1 qf), fun q => (nx.oth _ h01).trans (h.e0 q), fun _ => nx.at_, h.wn, fun q => by
  obtain ⟨g, b, h1, h2, h3⟩ := h.wf q
  exact ⟨g, b, (nx.oth _ h0f).trans h1, h2, h3⟩⟩
theorem SN.pf (h : SN N ap wp w₀ df d0 d1 v0 v1 z ty Y b0 b1 false a w) (hw : w₀.heap.size ≤ wp.heap.size) (hY : Y wp.heap.size) (hN : Nat.blt df N = true) (h0 : Nat.beq d0 df = false) (h1 : Nat.beq d1 df = false) : SN N ap wp w₀ df d0 d1 v0 v1 z ty Y b0 b1 true (a.put (some df) (.pointer (some ⟨w.heap.size, 0, none⟩))) (w.alloc (.cells z ty)) := by
 have nx := Nx.put h.ok hN (.pointer (some ⟨w.heap.size, 0, none⟩))
 have nw := New.mk' w z ty
 have e := h.wn rfl
 exact ⟨nx.ok, fun t q0 q1 qf => (nx.oth t qf).trans (h.old t q0 q1 qf), fun q => (nx.oth _ h0).trans (h.e0 q), fun q => (nx.oth _ h1).trans (h.e1 q), (fun q => by cases q), fun _ => ⟨e ▸ nw.gr, w.heap.size, nx.at_, by rw [e]; exact ⟨hw, hY⟩, nw.bk⟩⟩
end
section
variable {P : Program} {ops : Array Oper} {Q : Exit → Act → World → Prop} {N : Nat} {Z : Nat → World → Prop}
theorem tailN {e0 e1 f j fuel : Nat} {o0 o1 of oj : Oper} {LL : Bool → Bool → Bool → Array Bool} {LJ : Bool → Array Bool} {ap : Act} {wp w₀ : World} {df d0 d1 : Nat} {v0 v1 : Value} {z cs' : Array Value} {ty : TypeId} {Y : Nat → Prop}
  (hr3 : Region.ready .any ops (LL true true true) = [j]) (hr2 : Region.ready .any ops (LL true false true) = [e1, j]) (hr1 : Region.ready .any ops (LL false true true) = [e0]) (hr0 : Region.ready .any ops (LL false false true) = [e0, e1])
  (hq3 : Region.ready .any ops (LL true true false) = [f]) (hq2 : Region.ready .any ops (LL true false false) = [e1, f]) (hq1 : Region.ready .any ops (LL false true false) = [e0, f]) (hq0 : Region.ready .any ops (LL false false false) = [e0, e1, f])
  (hrj : Region.ready .any ops (LJ false) = [e1])
  (hs0 : ∀ b1 bf, (LL false b1 bf).setIfInBounds e0 true = LL true b1 bf) (hs1 : ∀ b0 bf, (LL b0 false bf).setIfInBounds e1 true = LL b0 true bf) (hsf : ∀ b0 b1, (LL b0 b1 false).setIfInBounds f true = LL b0 b1 true) (hsj : ∀ b1, (LL true b1 true).setIfInBounds j true = LJ b1) (hsj1 : (LJ false).setIfInBounds e1 true = LJ true)
  (ho0 : ops[e0]? = some o0) (ho1 : ops[e1]? = some o1) (hof : ops[f]? = some of) (hoj : ops[j]? = some oj) (hd0 : o0.dst = some d0) (hd1 : o1.dst = some d1) (hdf : of.dst = some df) (hdj : oj.dst = none)
  (hw0 : ∀ a : Act, Region.wanted o0 (yielded ops a.tmps) = true) (hw1 : ∀ a : Act, Region.wanted o1 (yielded ops a.tmps) = true) (hwf : ∀ a : Act, Region.wanted of (yielded ops a.tmps) = true) (hwj : ∀ a : Act, Region.wanted oj (yielded ops a.tmps) = true)
  (hN0 : Nat.blt d0 N = true) (hN1 : Nat.blt d1 N = true) (hNf : Nat.blt df N = true) (h10 : Nat.beq d1 d0 = false) (h01 : Nat.beq d0 d1 = false) (hf0 : Nat.beq df d0 = false) (h0f : Nat.beq d0 df = false) (hf1 : Nat.beq df d1 = false) (h1f : Nat.beq d1 df = false)
  (run0 : ∀ (a : Act) (w : World), (∀ t, Nat.beq t d0 = false → Nat.beq t d1 = false → Nat.beq t df = false → a.eval (.tmp t) = ap.eval (.tmp t)) → (execOp a.eval o0).run P w = .ok (.value v0) w)
  (run1 : ∀ (a : Act) (w : World), (∀ t, Nat.beq t d0 = false → Nat.beq t d1 = false → Nat.beq t df = false → a.eval (.tmp t) = ap.eval (.tmp t)) → (execOp a.eval o1).run P w = .ok (.value v1) w)
  (runf : ∀ (a : Act) (w : World), (execOp a.eval of).run P w = .ok (.value (.pointer (some ⟨w.heap.size, 0, none⟩))) (w.alloc (.cells z ty)))
  (runj : ∀ (a : Act) (w : World) (b : Nat), a.eval (.tmp d0) = v0 → a.eval (.tmp df) = .pointer (some ⟨b, 0, none⟩) → Bk w b z ty → (execOp a.eval oj).run P w = .ok .skip (w.setRow b cs'))
  (hgw : w₀.heap.size ≤ wp.heap.size) (hY : Y wp.heap.size)
  (h : ∀ a' wm w' b, Ok N a' → (∀ t, Nat.beq t d0 = false → Nat.beq t d1 = false → Nat.beq t df = false → a'.eval (.tmp t) = ap.eval (.tmp t)) → a'.eval (.tmp d0) = v0 → a'.eval (.tmp d1) = v1 → a'.eval (.tmp df) = .pointer (some ⟨b, 0, none⟩) → (w₀.heap.size ≤ b ∧ Y b) → Gr wp wm → Bk wm b z ty → Upd wm w' b → Bk w' b cs' ty → wpAny P .any ops Q fuel (LJ true) a' w') :
  (∀ a w, SN N ap wp w₀ df d0 d1 v0 v1 z ty Y false false true a w → wpAny P .any ops Q (fuel + 3) (LL false false true) a w) ∧ (∀ a w, SN N ap wp w₀ df d0 d1 v0 v1 z ty Y false false false a w → wpAny P .any ops Q (fuel + 4) (LL false false false) a w) := by
 have store : ∀ b1 a w, SN N ap wp w₀ df d0 d1 v0 v1 z ty Y true b1 true a w → ∀ R : Act → World → Prop, (∀ wm b, a.eval (.tmp df) = .pointer (some ⟨b, 0, none⟩) → (w₀.heap.size ≤ b ∧ Y b) → Gr wp w → Bk w b z ty → Upd w (w.setRow b cs') b → Bk (w.setRow b cs') b cs' ty → wm = w.setRow b cs' → R a wm) → wpOp P ops Q j R a w := by
  intro b1 a w s R hR
  obtain ⟨g, b, h1, h2, h3⟩ := s.wf rfl
  exact w_st hoj (hwj a) hdj (runj a w b (s.e0 rfl) h1 h3) (hR _ b h1 h2 g h3 (upd_row _ _ _) (h3.row _) rfl)
 have n3 : ∀ a w, SN N ap wp w₀ df d0 d1 v0 v1 z ty Y true true true a w → wpAny P .any ops Q (fuel + 1) (LL true true true) a w := by
  intro a w s
  refine wpAny_all hr3 (by simp) fun i hi => ?_
  obtain rfl : i = j := by simpa using hi
  refine store true a w s _ fun wm b k1 k2 k3 k4 k5 k6 e => ?_
  subst e
  rw [hsj true]
  exact h a w _ b s.ok s.old (s.e0 rfl) (s.e1 rfl) k1 k2 k3 k4 k5 k6
 have n2 : ∀ a w, SN N ap wp w₀ df d0 d1 v0 v1 z ty Y true false true a w → wpAny P .any ops Q (fuel + 2) (LL true false true) a w := by
  intro a w s
  refine wpAny_all hr2 (by simp) fun i hi => ?_
  rcases List.mem_cons.1 hi with rfl | hi
  ·refine w_val ho1 (hw1 _) hd1 (run1 a w s.old) ?_
   rw [hs1 true true]
   exact n3 _ _ (s.p1 hN1 h01 hf1)
  ·obtain rfl : i = j := by simpa using hi
   refine store false a w s _ fun wm b k1 k2 k3 k4 k5 k6 e => ?_
   subst e
   rw [hsj false]
   refine wpAny_all hrj (by simp) fun i hi => ?_
   obtain rfl : i = e1 := by simpa using hi
   refine w_val ho1 (hw1 _) hd1 (run1 a _ s.old) ?_
   rw [hsj1]
   have nx := Nx.put s.ok hN1 v1
   exact h _ w _ b nx.ok (fun t q0 q1 qf => (nx.oth t q1).trans (s.old t q0 q1 qf)) ((nx.oth _ h01).trans (s.e0 rfl)) nx.at_ ((nx.oth _ hf1).trans k1) k2 k3 k4 k5 k6
 have n1 : ∀ a w, SN N ap wp w₀ df d0 d1 v0 v1 z ty Y false true true a w → wpAny P .any ops Q (fuel + 2) (LL false true true) a w := by
  intro a w s
  refine wpAny_all hr1 (by simp) fun i hi => ?_
  obtain rfl : i = e0 := by simpa using hi
  refine w_val ho0 (hw0 _) hd0 (run0 a w s.old) ?_
  rw [hs0 true true]
  exact n3 _ _ (s.p0 hN0 h10 hf0)
 have n0 : ∀ a w, SN N ap wp w₀ df d0 d1 v0 v1 z ty Y false false true a w → wpAny P .any ops Q (fuel + 3) (LL false false true) a w := by
  intro a w s
  refine wpAny_all hr0 (by simp) fun i hi => ?_
  rcases List.mem_cons.1 hi with rfl | hi
  ·refine w_val ho0 (hw0 _) hd0 (run0 a w s.old) ?_
   rw [hs0 false true]
   exact n2 _ _ (s.p0 hN0 h10 hf0)
  ·obtain rfl : i = e1 := by simpa using hi
   refine w_val ho1 (hw1 _) hd1 (run1 a w s.old) ?_
   rw [hs1 false true]
   exact n1 _ _ (s.p1 hN1 h01 hf1)
 have q3 : ∀ a w, SN N ap wp w₀ df d0 d1 v0 v1 z ty Y true true false a w → wpAny P .any ops Q (fuel + 2) (LL true true false) a w := by
  intro a w s
  refine wpAny_all hq3 (by simp) fun i hi => ?_
  obtain rfl : i = f := by simpa using hi
  refine w_alloc hof (hwf _) hdf (runf a w) ?_
  rw [hsf true true]
  exact n3 _ _ (s.pf hgw hY hNf h0f h1f)
 have q2 : ∀ a w, SN N ap wp w₀ df d0 d1 v0 v1 z ty Y true false false a w → wpAny P .any ops Q (fuel + 3) (LL true false false) a w := by
  intro a w s
  refine wpAny_all hq2 (by simp) fun i hi => ?_
  rcases List.mem_cons.1 hi with rfl | hi
  ·refine w_val ho1 (hw1 _) hd1 (run1 a w s.old) ?_
   rw [hs1 true false]
   exact q3 _ _ (s.p1 hN1 h01 hf1)
  ·obtain rfl : i = f := by simpa using hi
   refine w_alloc hof (hwf _) hdf (runf a w) ?_
   rw [hsf true false]
   exact n2 _ _ (s.pf hgw hY hNf h0f h1f)
 have q1 : ∀ a w, SN N ap wp w₀ df d0 d1 v0 v1 z ty Y false true false a w → wpAny P .any ops Q (fuel + 3) (LL false true false) a w := by
  intro a w s
  refine wpAny_all hq1 (by simp) fun i hi => ?_
  rcases List.mem_cons.1 hi with rfl | hi
  ·refine w_val ho0 (hw0 _) hd0 (run0 a w s.old) ?_
   rw [hs0 true false]
   exact q3 _ _ (s.p0 hN0 h10 hf0)
  ·obtain rfl : i = f := by simpa using hi
   refine w_alloc hof (hwf _) hdf (runf a w) ?_
   rw [hsf false true]
   exact n1 _ _ (s.pf hgw hY hNf h0f h1f)
 refine ⟨n0, ?_⟩
 intro a w s
 refine wpAny_all hq0 (by simp) fun i hi => ?_
 rcases List.mem_cons.1 hi with rfl | hi
 ·refine w_val ho0 (hw0 _) hd0 (run0 a w s.old) ?_
  rw [hs0 false false]
  exact q2 _ _ (s.p0 hN0 h10 hf0)
 ·rcases List.mem_cons.1 hi with rfl | hi
  ·refine w_val ho1 (hw1 _) hd1 (run1 a w s.old) ?_
   rw [hs1 false false]
   exact q1 _ _ (s.p1 hN1 h01 hf1)
  ·obtain rfl : i = f := by simpa using hi
   refine w_alloc hof (hwf _) hdf (runf a w) ?_
   rw [hsf false false]
   exact n0 _ _ (s.pf hgw hY hNf h0f h1f)
theorem RegN.runN {id n k f : Nat} {hs : List Nat} {js : Js} {r : Option Nat} {c : Nat} {a : Act} {w : World} {z : Array Value} {ty : TypeId} {L1 L2 : Array Bool} (R : RegN P ops Q N a w.drew r c Z (f :: hs) n js) (hr : ∀ k, r = some k → k < w.heap.size) (hfc : Nat.beq f c = false) (hcs : hd hs c = true) (hZ : ∀ b w w', Gr w w' → Z b w → Z b w') (hZ1 : ∀ v w, jAt js c v w → Z w.heap.size (w.alloc (.cells z ty))) (hn : ops.size = n) (hk : ((List.range n).filter fun i => hd hs i).length + (k + 1) = n)
    (hL1 : firstsH n hs = L1) (hL2 : firstsH n (f :: hs) = L2) (hf : P.follows .mixedOrders = true) (ok : Ok N a) (hsh : shapeF ops hs f = true) (hN : ((f :: hs).all fun i => Nat.blt (dstAt ops i) N) = true)
    (hrun : ∀ (o : Oper) (a : Act) (w : World), ops[f]? = some o → (execOp a.eval o).run P w = .ok (.value (.pointer (some ⟨w.heap.size, 0, none⟩))) (w.alloc (.cells z ty)))
    (h : ∀ a' w', PostM ops hs r f js N a w.drew a' w' → wpAny P .any ops Q (k + 1) L1 a' w' ∧ ∀ b, a'.eval (.tmp (dstAt ops f)) = .pointer (some ⟨b, 0, none⟩) → w.drew.heap.size ≤ b → Bk w' b z ty → Z b w' → wpAny P .any ops Q k L2 a' w') : (Code.region id ops true).wp P Q a w := by
  subst hn hL1 hL2
  refine wp_region_any hf ?_
  obtain ⟨hdd0, -, -, hff, -, -⟩ := shapeF_spec hsh
  have hmem : ∀ j, hd hs j = true → j ∈ (List.range ops.size).filter fun i => hd hs i := fun j hj => by
    obtain ⟨o, ho, -⟩ := hdd0 j hj
    exact List.mem_filter.2 ⟨List.mem_range.2 (Array.getElem?_eq_some_iff.1 ho).1, hj⟩
  have h' := R.wayN hr hfc hcs hZ hZ1 rfl hsh hN k hrun (fun a' w' p => ⟨(h a' w' p).1, trivial⟩) (fun a' w' b p e1 e2 e3 e4 => (h a' w' p).2 b e1 e2 e3 e4) ((List.range ops.size).filter fun i => hd hs i) (Array.replicate ops.size false) a w.drew
    { ok := ok, gr := gb_self, gr0 := fun _ => Gr.refl _, old := fun _ _ => rfl, size := by simp
      closed := fun i o h => by rw [replicate_getD] at h; cases h
      nodup := List.nodup_range.filter _
      un := fun j hj => by rw [replicate_getD]; simp only [true_iff]; exact hmem j hj
      lt := fun j hj => (List.mem_filter.1 hj).2
      tail := fun j _ _ => replicate_getD _ _
      made := fun h => by rw [replicate_getD] at h; cases h
      js := fun j _ h => by rw [replicate_getD] at h; cases h }
  rw [replicate_getD] at h'
  simp only [Bool.false_eq_true, if_false] at h'
  rw [hk] at h'
  exact h'
end
end Gx
/- Sites: reedkeep.makes, two, siteBegun. -/
namespace Go.Proofs.YtglbnggkkjhokaaGreat
open Go.RowKit Rm Gx
def id4 (j : Nat) : List UInt8 := if j = 0 then [97] else if j = 1 then [98] else if j = 2 then [99] else [100]
theorem id4_ok (n : Nat) : idB (id4 n) = true := by unfold id4; split <;> (try split) <;> (try split) <;> decide
structure SameE (S S' : SiD) : Prop where
  me : S'.me = S.me
  stamp : S'.stamp = S.stamp
  T : S'.T = S.T
  P : S'.P = S.P
theorem SameE.refl (S : SiD) : SameE S S := ⟨rfl, rfl, rfl, rfl⟩
theorem SameE.step {S S' : SiD} (h : SameE S S') (l : List UInt8) (t n d : Int) : SameE S (mkS S' l t n d) := ⟨h.me, h.stamp, h.T, h.P⟩
theorem one_bare {me : Nat} {l : List UInt8} {t n d : Int} (hme : me < 5) (hid : idB l = true) (ht : 0 ≤ t ∧ t < 16) (hn : 0 ≤ n ∧ n < 32) (hd : 0 ≤ d ∧ d ≤ 1000000) : chkOne ⟨l, (me : Int), 1, t, n, d, [], []⟩ = 0 := by
 have h2 : argB ⟨l, (me : Int), 1, t, n, d, [], []⟩ = true := by
  unfold argB
  have d1 : dotB ((me : Int), (1 : Int)) = true := by rw [dotB_iff]; simp only; omega
  have d2 : ptB t n = true := by rw [ptB_iff]; omega
  simp only [d1, d2, Bool.true_and, Bool.and_eq_true, decide_eq_true_eq]
  omega
 have h3 : chkK [] [] = 0 := ok0.chk (Nat.zero_le _)
 have h4 : memI [] [] (me : Int) 1 = false := by
  unfold memI
  cases q : memB (([] : List Int).map Int.toNat) (([] : List (Int × Int)).map fun d => (d.1.toNat, d.2.toNat)) (me : Int).toNat (1 : Int).toNat
  ·rfl
  ·rw [memB_iff] at q
   simp [cv] at q
 unfold chkOne
 simp only
 rw [if_neg (by rw [hid]; simp), if_neg (by rw [h2]; simp), if_neg (by rw [h3]; simp), if_neg (by rw [h4]; simp)]
def ZS (b : Nat) (S : SiD) (c : Nat) (w : World) : Prop := ∀ wm w2, Gr w wm → Upd wm w2 c → SiteAt w2 b S
theorem NewAt.zs {wW w w' : World} {b c : Nat} {S S' : SiD} (h : NewAt w w' b S S') (hW : Gr wW w) (hS : SiteAt wW b S) (g : w.grownBy w' (some b)) (hT : S'.T = S.T) (hP : S'.P = S.P) (h1 : wW.heap.size ≤ c) (h2 : c < w.heap.size) : ZS b S' c w' := fun wm w2 g2 u => by
 have hlt := hS.lt
 have gb : wW.grownBy w2 (some b) := gb_upd (gb_gr (gb_gb (gb_of hW) g) g2) u h1
 have k := hS.tk gb
 obtain ⟨fa, fn, fc, sa, sn, sq, la, lc, ra, rn, rc, q1, q2, q3⟩ := h
 obtain ⟨fa', fn', fc', sa', sn', sq', la', lc', p1, p2, p3, p4⟩ := hS
 have e := p1.gr hW
 unfold Bk at e q1
 rw [q1] at e
 injection e with e
 injection e with e
 simp only [Array.mk.injEq, List.cons.injEq, Value.slice.injEq, and_true, true_and] at e
 obtain ⟨⟨rfl, rfl, rfl⟩, ⟨rfl, rfl, rfl⟩, rfl, rfl⟩ := e
 have hne : b ≠ c := by omega
 refine ⟨_, _, _, ra, rn, rc, _, _, (u.oth b hne).trans (Bk.gr q2 g2), ?_, ((q3.tkw (tkw_gr g2)).updL u h2).any, ?_⟩
 ·rw [hT]; exact p2.tk k.p
 ·rw [hP]; exact p4.tkw k
theorem smake_i (b : Nat) (S : SiD) (l : List UInt8) (t n d : Nat) (w0 wW w : World) (hG : Gr w0 w) (hB : w0.heap.size ≤ b) (hW : Gr wW w) (hS : SiteAt wW b S) (hI : MkI S) (hm : S.made < 40) (hid : idB l = true) (ht : t < 16) (hn : n < 32) (hd : d ≤ 1000000) :
  Calls Tryz.prog 22 #[.pointer (some ⟨b, 0, none⟩), .string (bs l), .agg #[.int .i64 ((t : Nat) : Int), .int .i64 ((n : Nat) : Int)], .int .i64 ((d : Nat) : Int)] w fun e w' => e = .returned (.tuple #[.agg #[.int .i64 ((S.me : Nat) : Int), .int .i64 ((S.made + 1 : Nat) : Int)], .int .i64 0]) ∧ SiteAt w' b (mkS S l t n d) ∧ MkI (mkS S l t n d) ∧ (∀ c, wW.heap.size ≤ c → c < w.heap.size → ZS b (mkS S l t n d) c w') ∧ w.grownBy w' (some b) := by
 have ht' : 0 ≤ (t : Int) ∧ (t : Int) < 16 := by omega
 have hn' : 0 ≤ (n : Int) ∧ (n : Int) < 32 := by omega
 have hd' : 0 ≤ (d : Int) ∧ (d : Int) ≤ 1000000 := by omega
 have hone := hI.one hid ht' hn' hd'
 refine (smake_ok b S l t n d w0 w hG hB (hS.gr hW) hI.ok (one_bare hI.ok.me hid ht' hn' hd') (by omega) (hI.few l) (hI.put hone).1).mono ?_
 rintro e w' ⟨rfl, h1, h2, h3⟩
 exact ⟨rfl, h1, hI.step hone hm, fun c q1 q2 => h2.zs hW hS h3 rfl rfl q1 q2, h3⟩
end Go.Proofs.YtglbnggkkjhokaaGreat
/- Sites: checkBatch, Take where it is refused, siteBegun. -/
namespace Go.Proofs.YtglbnggkkjhokaaGreat
open Go.RowKit Rm Gx
theorem o_eqNil {ev : Operand → Value} {w : World} {d : Option Tmp} {ty : TypeId} {p : String} {af : Array Edge} {g : Option (Nat × Bool)} {t t' : TypeId} {x y : Operand} {a : Addr} (hx : ev x = .pointer (some a)) (hy : ev y = .pointer none) (hu : Tryz.prog.underlying t = some (.pointer (Tryz.prog.pointee t))) : (execOp ev (Oper.mk d (.binOp .eql t x y t') ty p af g)).run Tryz.prog w = .ok (.value (.bool false)) w := by
 unfold execOp
 simp only [hx, hy, eqGuard, binOp, Sem.run_bind, run_equal_pointer_nil _ _ _ hu, Sem.run_pure, Result.andThen_ok]
 rfl
theorem mkS_one {S : SiD} (h : MkI S) {id : List UInt8} {t n d : Int} (hone : chkOne (newD S id t n d) = 0) (hL : S.L = []) : (mkS S id t n d).L.length = 1 := by
 have e := (h.put hone).2
 show (putL S.L (newD S id t n d)).length = 1
 rw [e, svIns_len, hL]
 rfl
theorem siteBegun_any  (w : World) :
  Calls Tryz.prog 49 #[] w fun e w' => e = .returned (.bool true) ∧ Gr w w' := by
 refine enter (N := 34) Tryz.func49 rfl rfl rfl (fun a0 ok0 h0 => ?_)
 clear h0
 have G0 := Gr.refl w
 refine wp_seq_k (fun K1 ar => (wp_region_lit (sw ok0 (o_as ev_const) (fun aY n2 => ?_))))
 refine wpList_nil (th_n (ar _ _ (wp_seq_k (fun K3 av => (wp_region_lit (sc n2.ok rfl (wn _ rfl) rfl (o_f0 Tryz.func52 rfl rfl rfl ) (fevery_own w) ?_))))))
 rintro _ w5 ⟨v, rfl, hv, g6⟩
 refine ⟨_, rfl, fun a1 n4 => ?_⟩
 have G7 := G0.trans g6
 refine sc n4.ok rfl (wn _ rfl) rfl (o_f2 Tryz.func15 rfl rfl rfl ev_const n4.at_) (snew_ok 2 (by omega) v fullT w5 ((FO.fs hv).le (by decide))) ?_
 rintro _ w9 ⟨b, rfl, hge, hS, az⟩
 have hB : w.heap.size ≤ b := Nat.le_trans G7.size hge
 have hI0 : MkI ⟨2, 0, 0, fullT, [], []⟩ := MkI.new (by omega)
 refine ⟨_, rfl, fun a2 n8 => ?_⟩
 have af := G7.trans az
 refine sw n8.ok (o_mv n8.at_) (fun a3 G => ?_)
 refine sw G.ok (o_ex G.at_ rfl) (fun a4 H => ?_)
 refine sw H.ok (o_ex (H.n G.at_) rfl) (fun a6 I => ?_)
 refine sw I.ok (o_as (I.n H.at_)) (fun a7 J => ?_)
 refine sw J.ok (o_as (J.n I.at_)) (fun a8 K => ?_)
 refine wpList_nil (th_n (av _ _ (wp_seq_k (fun a9 aA => (wp_seq_k (fun ba aB => (wp_region_lit (sw K.ok (o_mv K.at_) (fun bb M => ?_)))))))))
 refine sw M.ok (o_neq (b := false) M.at_ ev_const (by decide)) (fun bc O => ?_)
 refine sw O.ok (o_mv O.at_) (fun bd n => ?_)
 have ag := n.n (O.n (M.n (K.n J.at_)))
 refine sv n.ok rfl (wgT rfl (yl 2 false rfl n.at_) rfl) rfl (o_mv ag) (fun bf o => ?_)
 refine sv o.ok rfl (wgT rfl (yl 2 false rfl (o.n n.at_)) rfl) rfl (o_eqNil o.at_ ev_const (by kernel_rfl)) (fun bg r => ?_)
 refine sw r.ok (o_pkF (r.n (o.n n.at_)) r.at_) (fun bh S => ?_)
 refine wpList_nil (th_n (aB _ _ (wp_cond_false (S.at_) ?_)))
 refine wp_skip (th_n (aA _ _ (wp_seq_k (fun bi aC => (wp_region_lit ?_)))))
 have ah := S.n (r.n (o.n ag))
 refine sw S.ok (o_mv ah) (fun bj T => ?_)
 refine sw T.ok (o_b0 (cs := #[.int .i64 0, .int .i64 0]) Tryz.underlying49 (by kernel_rfl) (by kernel_rfl)) (fun bl t => ?_)
 refine sc t.ok rfl (wn _ rfl) rfl (o_f4 Tryz.func22 rfl rfl rfl (t.n T.at_) ev_const t.at_ ev_const) (smake_i b ⟨2, 0, 0, fullT, [], []⟩ [97] 0 0 7 w w9 w9 af hB (Gr.refl _) hS hI0 (by decide) (by decide) (by omega) (by omega) (by omega)) ?_
 rintro _ U ⟨rfl, hS2, hI2, -, aD⟩
 have hl1 : (mkS ⟨2, 0, 0, fullT, [], []⟩ [97] ((0 : Nat) : Int) ((0 : Nat) : Int) ((7 : Nat) : Int)).L.length = 1 := mkS_one hI0 (hI0.one (by decide) (by omega) (by omega) (by omega)) rfl
 refine ⟨_, rfl, fun bm V => ?_⟩
 have ai := gr_site af aD hB
 refine sw V.ok (o_mv V.at_) (fun bn u => ?_)
 refine sw u.ok (o_ex u.at_ rfl) (fun bo y => ?_)
 refine sw y.ok (o_ex (y.n u.at_) rfl) (fun bp A => ?_)
 refine sal (cs := #[.int .i64 0, .int .i64 0]) A.ok rfl (wn _ rfl) rfl (o_al (z := .agg #[.int .i64 0, .int .i64 0]) (by kernel_rfl)) (fun bq br aj c g => ?_)
 have ak := Gr.refl U
 have aE : w.heap.size ≤ aj := by rw [c.eq]; exact ai.size
 have aF : U.heap.size ≤ aj := by rw [c.eq]; exact ak.size
 have aG := ai.trans c.gr
 have aH := ak.trans c.gr
 refine ssR rfl (wn _ rfl) (o_stR g.at_ (g.n (A.n y.at_)) c.bk (by kernel_rfl) rfl (by first | (simp [Value.oneCell']; done) | (rw [← Array.all_toList]; simp [Value.oneCell']))) c.bk (fun W al aI => ?_)
 have aJ : Gr w W := Below.upd aG aE al
 have aK : Gr U W := Below.upd aH aF al
 have aL := hS2.gr aK
 refine sw g.ok (o_as (g.n A.at_)) (fun bt B => ?_)
 refine wpList_nil (th_n (aC _ _ (wp_seq_k (fun bu aM => (wp_region_lit (sw B.ok (o_mv B.at_) (fun bv C => ?_)))))))
 refine sw C.ok (o_eq (b := true) C.at_ ev_const (by decide)) (fun bx D => ?_)
 refine sw D.ok (o_mv D.at_) (fun bz a => ?_)
 have aO := a.n (D.n (C.n (B.n g.at_)))
 refine sv a.ok rfl (wgT rfl (yl 2 true rfl a.at_) rfl) rfl (o_ldR aO aI Tryz.underlying51 rfl (by kernel_rfl)) (fun bA h => ?_)
 refine sv h.ok rfl (wgT rfl (yl 2 true rfl (h.n a.at_)) rfl) rfl (o_bd (cells := #[.int .i64 2, .int .i64 1]) (vs := [(0, .int .i64 2), (1, .int .i64 1)]) (by simp [ev_const]) (by kernel_rfl)) (fun bB j => ?_)
 refine sv j.ok rfl (wgT rfl (yl 2 true rfl (j.n (h.n a.at_))) rfl) rfl (o_eqA (b := true) (j.n h.at_) j.at_ (by kernel_rfl) (eq_dot 2 1 2 1 _)) (fun bC E => ?_)
 have aS := E.n (j.n (h.n a.at_))
 refine sw E.ok (o_pkT aS E.at_) (fun bD X => ?_)
 refine sw X.ok (o_mv X.at_) (fun bE l => ?_)
 have aT := l.n (X.n (E.n (j.n (h.n (a.n (D.n (C.n (B.n (g.n (A.n (y.n (u.n (V.n (t.n (T.n ah)))))))))))))))
 refine sv l.ok rfl (wgT rfl (yl 7 true rfl l.at_) rfl) rfl (o_mv aT) (fun bF q => ?_)
 refine sc q.ok rfl (wgT rfl (yl 7 true rfl (q.n l.at_)) rfl) rfl (o_f1 Tryz.func45 rfl rfl rfl q.at_) (sshelf_any b (mkS ⟨2, 0, 0, fullT, [], []⟩ [97] ((0 : Nat) : Int) ((0 : Nat) : Int) ((7 : Nat) : Int)) hI2.ok.ok W aL) ?_
 rintro _ bG ⟨ua, un, uc, rfl, hu, hul, aU⟩
 refine ⟨_, rfl, fun bH F => ?_⟩
 have aV := aJ.trans aU
 refine sv F.ok rfl (wgT rfl (yl 7 true rfl (F.n (q.n l.at_))) rfl) rfl (o_len F.at_ Tryz.underlying41) (fun bI Y => ?_)
 have am := Y.n (F.n (q.n l.at_))
 refine sv Y.ok rfl (wgT rfl (yl 7 true rfl am) rfl) rfl (o_eq (b := true) Y.at_ ev_const (by rw [hul, hl1]; rfl)) (fun bJ Z => ?_)
 refine sw Z.ok (o_pkT (Z.n am) Z.at_) (fun bK an => ?_)
 refine sw an.ok (o_as an.at_) (fun bL ao => ?_)
 refine wpList_nil (th_n (aM _ _ (wp_ret (ret1 ao.ok rfl (ao.at_) ⟨rfl, aV⟩))))
end Go.Proofs.YtglbnggkkjhokaaGreat
