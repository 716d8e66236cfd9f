/- Joined: PtK, PtW, PtF, PtL, PtM, PtY, OpenB, OpenS. -/
import Derived.Test.YthcehgmpajejeaaSy3
import Derived.Lib.AppendZerosOnto
import Derived.Lib.AppendZeros
import Derived.Laws.AppendOwnNone
/- Marks; part.Within. -/
set_option linter.unusedVariables false
set_option linter.unusedSimpArgs false
namespace Rm
open Go Go.RowKit Gx
theorem mkTo_yes {E : Type} {p : E → Bool} {K : List E} {i : Nat} {x : E} (h : K[i]? = some x) (hp : p x = true) : mkTo p K (i + 1) = mkTo p K i ||| 2 ^ i := by
  show (if (K[i]?).any p then _ else _) = _
  rw [h]; simp [hp]
theorem mkTo_no {E : Type} {p : E → Bool} {K : List E} {i : Nat} {x : E} (h : K[i]? = some x) (hp : p x = false) : mkTo p K (i + 1) = mkTo p K i := by
  show (if (K[i]?).any p then _ else _) = _
  rw [h]; simp [hp]
theorem mkTo_lt32 {E : Type} (p : E → Bool) (K : List E) {i : Nat} (h : i ≤ 30) : mkTo p K i < 4294967296 := by
  have h1 := mkTo_lt p K i
  have h2 : (2 : Nat) ^ i ≤ 2 ^ 30 := Nat.pow_le_pow_right (by omega) h
  omega
theorem pow_lt32 {i : Nat} (h : i ≤ 30) : 2 ^ i < 4294967296 := by
  have h2 : (2 : Nat) ^ i ≤ 2 ^ 30 := Nat.pow_le_pow_right (by omega) h
  omega
def addM (M : List (Nat × Nat)) (a b : Nat) : List (Nat × Nat) := if a = 0 then M else M ++ [(a, b)]
/-- the marks of what was looked at: rows below i, and of row i what is below j -/
def MQ (q : Nat → Nat → List PtX → Nat) (W : Nat) (K L : List PtX) (i j : Nat) (m : Nat × Nat) : Prop := ∃ t n, (t < i ∨ t = i ∧ n < j) ∧ n < W ∧ q t n K ≠ 0 ∧ m = (q t n K, q t n L)
theorem mq_start {q : Nat → Nat → List PtX → Nat} {W : Nat} {K L : List PtX} : ∀ m, m ∈ ([] : List (Nat × Nat)) ↔ MQ q W K L 0 0 m := fun m => by
  constructor
  · intro h; cases h
  · rintro ⟨t, n, h, -⟩; omega
theorem mq_add {q : Nat → Nat → List PtX → Nat} {W : Nat} {K L : List PtX} {i j : Nat} {M : List (Nat × Nat)} (h : ∀ m, m ∈ M ↔ MQ q W K L i j m) (hj : j < W) : ∀ m, m ∈ addM M (q i j K) (q i j L) ↔ MQ q W K L i (j + 1) m := fun m => by
  unfold addM
  have step : MQ q W K L i (j + 1) m ↔ MQ q W K L i j m ∨ (q i j K ≠ 0 ∧ m = (q i j K, q i j L)) := by
    constructor
    · rintro ⟨t, n, h1, h2, h3, h4⟩
      by_cases e : t = i ∧ n = j
      · obtain ⟨rfl, rfl⟩ := e; exact .inr ⟨h3, h4⟩
      · exact .inl ⟨t, n, by omega, h2, h3, h4⟩
    · rintro (⟨t, n, h1, h2, h3, h4⟩ | ⟨h3, h4⟩)
      · exact ⟨t, n, by omega, h2, h3, h4⟩
      · exact ⟨i, j, by omega, hj, h3, h4⟩
  rw [step]
  split
  · rename_i e
    rw [h m]
    constructor
    · exact .inl
    · rintro (h1 | ⟨h1, -⟩)
      · exact h1
      · exact absurd e h1
  · rename_i e
    rw [List.mem_append, h m, List.mem_singleton]
    constructor
    · rintro (h1 | h1)
      · exact .inl h1
      · exact .inr ⟨e, h1⟩
    · rintro (h1 | ⟨-, h1⟩)
      · exact .inl h1
      · exact .inr h1
theorem mq_next {q : Nat → Nat → List PtX → Nat} {W j : Nat} {K L : List PtX} {i : Nat} {M : List (Nat × Nat)} (h : ∀ m, m ∈ M ↔ MQ q W K L i j m) (hj : W ≤ j) : ∀ m, m ∈ M ↔ MQ q W K L (i + 1) 0 m := fun m => by
  rw [h m]
  constructor
  · rintro ⟨t, n, h1, h2, h3, h4⟩; exact ⟨t, n, by omega, h2, h3, h4⟩
  · rintro ⟨t, n, h1, h2, h3, h4⟩; exact ⟨t, n, by omega, h2, h3, h4⟩
theorem addM_len (M : List (Nat × Nat)) (a b : Nat) : (addM M a b).length ≤ M.length + 1 := by
  unfold addM
  split
  · omega
  · rw [List.length_append]; simp
def mkP (t n : Nat) (K : List PtX) : Nat := mkL (fun x => bitT x.T (t : Int) (n : Int)) K
def mkD (a c : Nat) (K : List PtX) : Nat := mkL (fun x => hasD x.D (a : Int) ((c + 1 : Nat) : Int)) K
/-- a mark of a point against a mark of a dot: the first list has it and the second hasn't -/
def crossB (p d : Nat × Nat) : Bool := decide (¬ (((p.1 &&& d.1 : Nat) : Int) = 0)) && decide (((p.2 &&& d.2 : Nat) : Int) = 0)
def subP (K L : List PtX) : Prop := ∀ t n a c, t < 16 → n < 32 → inR a c → hasP K t n a c = true → hasP L t n a c = true
theorem cross_iff {K L : List PtX} (t n a c : Nat) (ht : t < 16) (hn : n < 32) (hi : inR a (c + 1)) : crossB (mkP t n K, mkP t n L) (mkD a c K, mkD a c L) = true ↔ hasP K t n a (c + 1) = true ∧ hasP L t n a (c + 1) = false := by
  have key : ∀ K : List PtX, (mkP t n K &&& mkD a c K = 0) ↔ hasP K t n a (c + 1) = false := fun K => by
    unfold mkP mkD hasP
    rw [mkL_and]
    have e : (fun x : PtX => bitT x.T (t : Int) (n : Int) && hasD x.D (a : Int) ((c + 1 : Nat) : Int)) = fun x => (x.T t).testBit n && x.D a (c + 1) := by
      funext x
      have h1 : bitT x.T (t : Int) (n : Int) = (x.T t).testBit n := by unfold bitT; rw [pointB_nat ht hn]; simp
      have h2 : hasD x.D (a : Int) ((c + 1 : Nat) : Int) = x.D a (c + 1) := by
        unfold hasD
        have : dotB ((a : Int), ((c + 1 : Nat) : Int)) = true := (dotB_iff _).2 ⟨by simp, by have := hi.1; simp only; omega, by simp only; omega, by have := hi.2.2; simp only; omega⟩
        rw [this]; simp
      rw [h1, h2]
    rw [e]
  unfold crossB
  rw [Bool.and_eq_true, decide_eq_true_eq, decide_eq_true_eq]
  simp only
  have c1 : (((mkP t n K &&& mkD a c K : Nat) : Int) = 0) ↔ (mkP t n K &&& mkD a c K = 0) := by omega
  have c2 : (((mkP t n L &&& mkD a c L : Nat) : Int) = 0) ↔ (mkP t n L &&& mkD a c L = 0) := by omega
  rw [c1, c2, key, key]
  simp
theorem within_marks {K L : List PtX} {A B : List (Nat × Nat)} (hA : ∀ m, m ∈ A ↔ MQ mkP 32 K L 16 0 m) (hB : ∀ m, m ∈ B ↔ MQ mkD 1000 K L 5 0 m) : (A.any fun p => B.any fun d => crossB p d) = false ↔ subP K L := by
  rw [List.any_eq_false]
  constructor
  · intro h t n a c ht hn hi hk
    cases hl : hasP L t n a c
    · exfalso
      obtain ⟨c, rfl⟩ : ∃ q, c = q + 1 := ⟨c - 1, by have := hi.2.1; omega⟩
      have hc := (cross_iff (K := K) (L := L) t n a c ht hn hi).2 ⟨hk, hl⟩
      have hne : ¬ (mkP t n K &&& mkD a c K = 0) := by
        intro e
        unfold crossB at hc
        rw [Bool.and_eq_true, decide_eq_true_eq] at hc
        exact hc.1 (by simp only; omega)
      have h1 : (mkP t n K, mkP t n L) ∈ A := (hA _).2 ⟨t, n, .inl ht, hn, (fun e => hne (by rw [e]; simp)), rfl⟩
      have h2 : (mkD a c K, mkD a c L) ∈ B := (hB _).2 ⟨a, c, .inl hi.1, by have := hi.2.2; omega, (fun e => hne (by rw [e]; simp)), rfl⟩
      exact h _ h1 (List.any_eq_true.2 ⟨_, h2, hc⟩)
    · rfl
  · intro h p hp hc
    obtain ⟨d, hd, hc⟩ := List.any_eq_true.1 hc
    obtain ⟨t, n, h1, h2, -, rfl⟩ := (hA p).1 hp
    obtain ⟨a, c, h3, h4, -, rfl⟩ := (hB d).1 hd
    have hi : inR a (c + 1) := ⟨by omega, by omega, by omega⟩
    obtain ⟨h5, h6⟩ := (cross_iff t n a c (by omega) h2 hi).1 hc
    rw [h t n a (c + 1) (by omega) h2 hi h5] at h6
    cases h6
theorem mq_lt {q : Nat → Nat → List PtX → Nat} {W i j : Nat} {K L : List PtX} {m : Nat × Nat} (h : MQ q W K L i j m) (hK : ∀ t n, q t n K < 4294967296) (hL : ∀ t n, q t n L < 4294967296) : m.1 < 4294967296 ∧ m.2 < 4294967296 := by
  obtain ⟨t, n, -, -, -, rfl⟩ := h
  exact ⟨hK t n, hL t n⟩
end Rm
namespace Go.Proofs.Ythcehgmpajejeaa
open Go.RowKit Rm Gx
set_option maxHeartbeats 8000000 in
set_option maxRecDepth 100000 in
theorem indexM (K : List (Nat × Nat)) (va : Option Addr) (vc : Nat) (f : FuncId) (caps : List Value) (p : (Nat × Nat) → Bool) (hf : FnOk Try.prog f) (hl : K.length ≤ 100000) (w : World) (hv : RdA encM 2 w va K) (hc : ∀ x ∈ K, ∀ w1, Gr w w1 → Calls Try.prog f (.agg #[.int .u32 ((x.1 : Nat) : Int), .int .u32 ((x.2 : Nat) : Int)] :: caps).toArray w1 fun e w2 => e = .returned (.bool (p x)) ∧ Gr w1 w2) :
    Calls Try.prog 42 #[.slice va K.length vc, .func (.func f) #[] caps.toArray] w fun e w' => e = .returned (.int .i64 (ixF p K 0)) ∧ Gr w w' := by
  refine enter (N := 19) Try.func42 rfl rfl rfl (fun a0 ok0 h0 => ?_)
  have e0_0 : a0.eval (.tmp 0) = .slice va K.length vc := h0 0 _ rfl
  have e0_1 : a0.eval (.tmp 1) = .func (.func f) #[] caps.toArray := h0 1 _ rfl
  clear h0
  have G0 := Gr.refl w
  refine wp_seq_k (fun K1 hK1 => ?_)
  refine wp_region_lit ?_
  refine sv ok0 rfl (wn _ rfl) rfl (o_as ev_const) (fun an2 n2 => ?_)
  refine wpList_nil ?_
  refine th_n (hK1 _ _ ?_)
  refine wp_seq_k (fun K3 hK3 => ?_)
  refine wp_seq_k (fun K4 hK4 => ?_)
  refine wp_region_lit ?_
  refine sv n2.ok rfl (wn _ rfl) rfl (o_mv (n2.ne rfl e0_0)) (fun an5 n5 => ?_)
  refine sv n5.ok rfl (wn _ rfl) rfl (o_len n5.at_ Try.underlying51) (fun an6 n6 => ?_)
  refine sv n6.ok rfl (wn _ rfl) rfl (o_mv ev_const) (fun an7 n7 => ?_)
  refine wpList_nil ?_
  refine th_n (hK4 _ _ ?_)
  refine wp_block ?_
  have e9 := n7.ne rfl (n6.ne rfl (n5.ne rfl (n2.ne rfl e0_0)))
  have e10 := n7.ne rfl (n6.ne rfl (n5.ne rfl (n2.ne rfl e0_1)))
  have e11 := n7.ne rfl (n6.ne rfl (n5.ne rfl n2.at_))
  refine lp (fun (nL : Nat) (aL : Act) (wL : World) => ∃ i : Nat, nL = K.length - i ∧ Ok 19 aL ∧ Gr w wL ∧ (aL.eval (.tmp 0) = .slice va K.length vc) ∧ (aL.eval (.tmp 1) = .func (.func f) #[] caps.toArray) ∧ (aL.eval (.tmp 4) = .int .i64 0) ∧ (aL.eval (.tmp 7) = .int .i64 ((K.length : Nat) : Int)) ∧ (aL.eval (.tmp 8) = .int .i64 (i : Int)) ∧ (i ≤ K.length) ∧ (∀ k y, k < i → K[k]? = some y → p y = false)) _ ⟨0, rfl, n7.ok, G0, e9, e10, e11, (n7.ne rfl n6.at_), n7.at_, by omega, fun k y hk => by omega⟩ ?_
  rintro m12 aI8 w14 ⟨i, hmI8, okI8, GI8, s0I8, s1I8, s4I8, s7I8, s8I8, hiI8, hbI8⟩ KI8 hKI8
  refine wp_seq_k (fun K15 hK15 => ?_)
  refine wp_region_lit ?_
  refine sv okI8 rfl (wn _ rfl) rfl (o_ltI s8I8 s7I8) (fun an16 n16 => ?_)
  refine wpList_nil ?_
  refine th_n (hK15 _ _ ?_)
  refine wp_seq_k (fun K17 hK17 => ?_)
  by_cases c18 : (i : Int) < ((K.length : Nat) : Int)
  · refine wp_cond_true ((n16.at_).trans (congrArg Value.bool (decide_eq_true c18))) ?_
    refine wp_skip ?_
    refine th_n (hK17 _ _ ?_)
    refine wp_seq_k (fun K19 hK19 => ?_)
    refine wp_block ?_
    refine wp_seq_k (fun K20 hK20 => ?_)
    refine wp_region_lit ?_
    refine sv n16.ok rfl (wn _ rfl) rfl (o_mv (n16.ne rfl s8I8)) (fun an21 n21 => ?_)
    refine sv n21.ok rfl (wn _ rfl) rfl (o_as n21.at_) (fun an22 n22 => ?_)
    refine wpList_nil ?_
    refine th_n (hK20 _ _ ?_)
    refine wp_seq_k (fun K23 hK23 => ?_)
    refine wp_region_lit ?_
    have e24 := n22.ne rfl (n21.ne rfl (n16.ne rfl s1I8))
    refine sv n22.ok rfl (wn _ rfl) rfl (o_mv e24) (fun an25 n25 => ?_)
    have e26 := n25.ne rfl (n22.ne rfl (n21.ne rfl (n16.ne rfl s0I8)))
    refine sv n25.ok rfl (wn _ rfl) rfl (o_mv e26) (fun an27 n27 => ?_)
    refine sv n27.ok rfl (wn _ rfl) rfl (o_mv (n27.ne rfl (n25.ne rfl n22.at_))) (fun an28 n28 => ?_)
    have h29l : i < List.length K := by omega
    obtain ⟨bh29, fh29, h29a, h29b, h29c⟩ := hv (ne_nil_of_lt h29l)
    obtain ⟨xh29, h29x⟩ : ∃ x, (K)[i]? = some x := ⟨_, List.getElem?_eq_getElem h29l⟩
    refine sv n28.ok rfl (wn _ rfl) rfl (o_iaV (i := i) (s := 2) h29a (n28.ne rfl n27.at_) n28.at_ Try.underlying51 (by kernel_rfl) h29l) (fun an30 n30 => ?_)
    refine sv n30.ok rfl (wn _ rfl) rfl (o_ldA (k := fh29 + i * 2) n30.at_ (cs := [.int .u32 ((xh29.1 : Nat) : Int), .int .u32 ((xh29.2 : Nat) : Int)]) (fun j v hv => (Below.cell GI8 h29b).trans (h29c _ _ h29x j v hv)) Try.underlying55 rfl (by kernel_rfl)) (fun an31 n31 => ?_)
    have e32 := n31.ne rfl (n30.ne rfl (n28.ne rfl (n27.ne rfl n25.at_)))
    refine sc n31.ok rfl (wn _ rfl) rfl (o_fv1 (caps := caps) hf e32 n31.at_) (hc _ (List.mem_of_getElem? h29x) w14 GI8) ?_
    rintro _ w34 ⟨rfl, g35⟩
    refine ⟨_, rfl, fun an33 n33 => ?_⟩
    have G36 := GI8.trans g35
    refine wpList_nil ?_
    refine th_n (hK23 _ _ ?_)
    cases c37 : (p xh29)
    · refine wp_cond_false ((n33.at_).trans (congrArg Value.bool (c37))) ?_
      refine wp_skip ?_
      refine ib_n ?_
      refine th_n (hK19 _ _ ?_)
      refine wp_region_lit ?_
      have e38 := n33.ne rfl (n31.ne rfl (n30.ne rfl (n28.ne rfl (n27.ne rfl (n25.ne rfl (n22.ne rfl (n21.ne rfl (n16.ne rfl s8I8))))))))
      refine sv n33.ok rfl (wn _ rfl) rfl (o_add (r := ((i + 1 : Nat) : Int)) e38 ev_const (by omega) (by omega)) (fun an39 n39 => ?_)
      refine sv n39.ok rfl (wn _ rfl) rfl (o_mv n39.at_) (fun an40 n40 => ?_)
      refine wpList_nil ?_
      have e41 := n40.ne rfl (n39.ne rfl (n33.ne rfl (n31.ne rfl (n30.ne rfl (n28.ne rfl (n27.ne rfl e26))))))
      have e42 := n40.ne rfl (n39.ne rfl (n33.ne rfl (n31.ne rfl (n30.ne rfl (n28.ne rfl (n27.ne rfl (n25.ne rfl e24)))))))
      have e43 := n40.ne rfl (n39.ne rfl (n33.ne rfl (n31.ne rfl (n30.ne rfl (n28.ne rfl (n27.ne rfl (n25.ne rfl (n22.ne rfl (n21.ne rfl (n16.ne rfl s4I8))))))))))
      have e44 := n40.ne rfl (n39.ne rfl (n33.ne rfl (n31.ne rfl (n30.ne rfl (n28.ne rfl (n27.ne rfl (n25.ne rfl (n22.ne rfl (n21.ne rfl (n16.ne rfl s7I8))))))))))
      exact th_n (hKI8 _ _ _ (by omega) ⟨i + 1, rfl, n40.ok, G36, e41, e42, e43, e44, n40.at_, by omega, fun k y hk hy => by
          rcases Nat.lt_or_ge k i with q | q
          · exact hbI8 k y q hy
          · obtain rfl : k = i := by omega
            rw [h29x] at hy
            cases hy
            exact c37⟩)
    · refine wp_cond_true ((n33.at_).trans (congrArg Value.bool (c37))) ?_
      refine wp_seq_k (fun K45 hK45 => ?_)
      refine wp_region_lit ?_
      have e46 := n33.ne rfl (n31.ne rfl (n30.ne rfl (n28.ne rfl (n27.ne rfl (n25.ne rfl n22.at_)))))
      refine sv n33.ok rfl (wn _ rfl) rfl (o_mv e46) (fun an47 n47 => ?_)
      refine sv n47.ok rfl (wn _ rfl) rfl (o_as n47.at_) (fun an48 n48 => ?_)
      refine wpList_nil ?_
      refine th_n (hK45 _ _ ?_)
      refine wp_ret ?_
      refine ib_r ?_
      refine th_r ?_
      refine th_r ?_
      refine ib_r ?_
      refine th_r ?_
      exact ret1 n48.ok rfl (n48.at_) ⟨congrArg (fun n => Ending.returned (Value.int .i64 n)) ((ixF_some K 0 i _ h29x c37 hbI8).trans (congrArg Int.ofNat (Nat.zero_add _))).symm, G36⟩
  · refine wp_cond_false ((n16.at_).trans (congrArg Value.bool (decide_eq_false c18))) ?_
    refine wp_exit ?_
    refine th_x ?_
    refine th_x ?_
    refine ib_x ?_
    refine th_n (hK3 _ _ ?_)
    refine wp_seq_k (fun K49 hK49 => ?_)
    refine wp_region_lit ?_
    refine sv n16.ok rfl (wn _ rfl) rfl (o_as ev_const) (fun an50 n50 => ?_)
    refine wpList_nil ?_
    refine th_n (hK49 _ _ ?_)
    refine wp_ret ?_
    exact ret1 n50.ok rfl (n50.at_) ⟨congrArg (fun n => Ending.returned (Value.int .i64 n)) (ixF_none K 0 (fun x hx => by
        obtain ⟨k, hk⟩ := List.getElem?_of_mem hx
        have hlt := (List.getElem?_eq_some_iff.1 hk).1
        exact hbI8 k x (by omega) hk)).symm, GI8⟩
set_option maxHeartbeats 8000000 in
set_option maxRecDepth 100000 in
theorem containsM (K : List (Nat × Nat)) (va : Option Addr) (vc : Nat) (f : FuncId) (caps : List Value) (p : (Nat × Nat) → Bool) (hf : FnOk Try.prog f) (hl : K.length ≤ 100000) (w : World) (hv : RdA encM 2 w va K) (hc : ∀ x ∈ K, ∀ w1, Gr w w1 → Calls Try.prog f (.agg #[.int .u32 ((x.1 : Nat) : Int), .int .u32 ((x.2 : Nat) : Int)] :: caps).toArray w1 fun e w2 => e = .returned (.bool (p x)) ∧ Gr w1 w2) :
    Calls Try.prog 22 #[.slice va K.length vc, .func (.func f) #[] caps.toArray] w fun e w' => e = .returned (.bool (K.any p)) ∧ Gr w w' := by
  refine enter (N := 9) Try.func22 rfl rfl rfl (fun a0 ok0 h0 => ?_)
  have e0_0 : a0.eval (.tmp 0) = .slice va K.length vc := h0 0 _ rfl
  have e0_1 : a0.eval (.tmp 1) = .func (.func f) #[] caps.toArray := h0 1 _ rfl
  clear h0
  have G0 := Gr.refl w
  refine wp_seq_k (fun K1 hK1 => ?_)
  refine wp_region_lit ?_
  refine sv ok0 rfl (wn _ rfl) rfl (o_as ev_const) (fun an2 n2 => ?_)
  refine wpList_nil ?_
  refine th_n (hK1 _ _ ?_)
  refine wp_seq_k (fun K3 hK3 => ?_)
  refine wp_region_lit ?_
  refine sv n2.ok rfl (wn _ rfl) rfl (o_mv (n2.ne rfl e0_0)) (fun an4 n4 => ?_)
  refine sv n4.ok rfl (wn _ rfl) rfl (o_mv (n4.ne rfl (n2.ne rfl e0_1))) (fun an5 n5 => ?_)
  refine sc n5.ok rfl (wn _ rfl) rfl (o_f2 Try.func42 rfl rfl rfl (n5.ne rfl n4.at_) n5.at_) (indexM K va vc f caps p hf hl w (hv.gr G0) (fun x hx w1 g1 => hc x hx w1 (G0.trans g1))) ?_
  rintro _ w7 ⟨rfl, g8⟩
  refine ⟨_, rfl, fun an6 n6 => ?_⟩
  have G9 := G0.trans g8
  refine sv n6.ok rfl (wn _ rfl) rfl (o_geI n6.at_ ev_const) (fun an10 n10 => ?_)
  refine sv n10.ok rfl (wn _ rfl) rfl (o_as n10.at_) (fun an11 n11 => ?_)
  refine wpList_nil ?_
  refine th_n (hK3 _ _ ?_)
  refine wp_ret ?_
  exact ret1 n11.ok rfl (n11.at_) ⟨congrArg (fun b => Ending.returned (Value.bool b)) (ixF_any p K 0), G9⟩
set_option maxHeartbeats 8000000 in
set_option maxRecDepth 100000 in
theorem bitsOf_any (K : List PtX) (va : Option Addr) (vc : Nat) (f : FuncId) (caps : List Value) (p : PtX → Bool) (hf : FnOk Try.prog f) (hl : K.length ≤ 30) (w : World) (hv : RdA encP 3 w va K) (hc : ∀ x ∈ K, ∀ w1, Gr w w1 → Calls Try.prog f (.agg #[.slice x.fa x.fn x.fc, .slice x.va x.vn x.vc, .slice x.ma x.mn x.mc] :: caps).toArray w1 fun e w2 => e = .returned (.bool (p x)) ∧ Gr w1 w2) :
    Calls Try.prog 56 #[.slice va K.length vc, .func (.func f) #[] caps.toArray] w fun e w' => e = .returned (.int .u32 ((mkL p K : Nat) : Int)) ∧ Gr w w' := by
  refine enter (N := 24) Try.func56 rfl rfl rfl (fun a0 ok0 h0 => ?_)
  have e0_0 : a0.eval (.tmp 0) = .slice va K.length vc := h0 0 _ rfl
  have e0_1 : a0.eval (.tmp 1) = .func (.func f) #[] caps.toArray := h0 1 _ rfl
  clear h0
  have G0 := Gr.refl w
  refine wp_seq_k (fun K1 hK1 => ?_)
  refine wp_region_lit ?_
  refine sv ok0 rfl (wn _ rfl) rfl (o_as ev_const) (fun an2 n2 => ?_)
  refine wpList_nil ?_
  refine th_n (hK1 _ _ ?_)
  refine wp_seq_k (fun K3 hK3 => ?_)
  refine wp_region_lit ?_
  refine sv n2.ok rfl (wn _ rfl) rfl (o_as ev_const) (fun an4 n4 => ?_)
  refine wpList_nil ?_
  refine th_n (hK3 _ _ ?_)
  refine wp_seq_k (fun K5 hK5 => ?_)
  refine wp_seq_k (fun K6 hK6 => ?_)
  refine wp_region_lit ?_
  refine sv n4.ok rfl (wn _ rfl) rfl (o_mv (n4.ne rfl (n2.ne rfl e0_0))) (fun an7 n7 => ?_)
  refine sv n7.ok rfl (wn _ rfl) rfl (o_len n7.at_ Try.underlying22) (fun an8 n8 => ?_)
  refine sv n8.ok rfl (wn _ rfl) rfl (o_mv ev_const) (fun an9 n9 => ?_)
  refine wpList_nil ?_
  refine th_n (hK6 _ _ ?_)
  refine wp_block ?_
  have e11 := n9.ne rfl (n8.ne rfl (n7.ne rfl (n4.ne rfl (n2.ne rfl e0_1))))
  have e12 := n9.ne rfl (n8.ne rfl (n7.ne rfl (n4.ne rfl n2.at_)))
  have e13 := n9.ne rfl (n8.ne rfl (n7.ne rfl n4.at_))
  refine lp (fun (nL : Nat) (aL : Act) (wL : World) => ∃ i : Nat, nL = K.length - i ∧ Ok 24 aL ∧ Gr w wL ∧ (aL.eval (.tmp 1) = .func (.func f) #[] caps.toArray) ∧ (aL.eval (.tmp 4) = .int .u32 0) ∧ (aL.eval (.tmp 5) = .int .u32 (((mkTo p K i) : Nat) : Int)) ∧ (aL.eval (.tmp 8) = .slice va K.length vc) ∧ (aL.eval (.tmp 9) = .int .i64 ((K.length : Nat) : Int)) ∧ (aL.eval (.tmp 10) = .int .i64 (i : Int)) ∧ (i ≤ K.length)) _ ⟨0, rfl, n9.ok, G0, e11, e12, e13, (n9.ne rfl (n8.ne rfl n7.at_)), (n9.ne rfl n8.at_), n9.at_, by omega⟩ ?_
  rintro m14 aI10 w16 ⟨i, hmI10, okI10, GI10, s1I10, s4I10, s5I10, s8I10, s9I10, s10I10, hiI10⟩ KI10 hKI10
  refine wp_seq_k (fun K17 hK17 => ?_)
  refine wp_region_lit ?_
  refine sv okI10 rfl (wn _ rfl) rfl (o_ltI s10I10 s9I10) (fun an18 n18 => ?_)
  refine wpList_nil ?_
  refine th_n (hK17 _ _ ?_)
  refine wp_seq_k (fun K19 hK19 => ?_)
  by_cases c20 : (i : Int) < ((K.length : Nat) : Int)
  · refine wp_cond_true ((n18.at_).trans (congrArg Value.bool (decide_eq_true c20))) ?_
    refine wp_skip ?_
    refine th_n (hK19 _ _ ?_)
    refine wp_seq_k (fun K21 hK21 => ?_)
    refine wp_block ?_
    refine wp_seq_k (fun K22 hK22 => ?_)
    refine wp_region_lit ?_
    refine sv n18.ok rfl (wn _ rfl) rfl (o_mv (n18.ne rfl s10I10)) (fun an23 n23 => ?_)
    have h24l : i < List.length K := by omega
    obtain ⟨bh24, fh24, h24a, h24b, h24c⟩ := hv (ne_nil_of_lt h24l)
    obtain ⟨xh24, h24x⟩ : ∃ x, (K)[i]? = some x := ⟨_, List.getElem?_eq_getElem h24l⟩
    refine sv n23.ok rfl (wn _ rfl) rfl (o_iaV (i := i) (s := 3) h24a (n23.ne rfl (n18.ne rfl s8I10)) (n23.ne rfl (n18.ne rfl s10I10)) Try.underlying22 (by kernel_rfl) h24l) (fun an25 n25 => ?_)
    refine sv n25.ok rfl (wn _ rfl) rfl (o_ldA (k := fh24 + i * 3) n25.at_ (cs := [.slice xh24.fa xh24.fn xh24.fc, .slice xh24.va xh24.vn xh24.vc, .slice xh24.ma xh24.mn xh24.mc]) (fun j v hv => (Below.cell GI10 h24b).trans (h24c _ _ h24x j v hv)) Try.underlying38 rfl (by kernel_rfl)) (fun an26 n26 => ?_)
    refine sal (cs := #[.slice none 0 0, .slice none 0 0, .slice none 0 0]) n26.ok rfl (wn _ rfl) rfl (o_al (z := .agg #[.slice none 0 0, .slice none 0 0, .slice none 0 0]) (by kernel_rfl)) (fun an27 w29 b28 W30 n27 => ?_)
    have l31 : w.heap.size ≤ b28 := by rw [W30.eq]; exact GI10.size
    have G32 := GI10.trans W30.gr
    have e33 := n27.ne rfl (n26.ne rfl (n25.ne rfl n23.at_))
    refine sv n27.ok rfl (wn _ rfl) rfl (o_as e33) (fun an34 n34 => ?_)
    refine ssR rfl (wn _ rfl) (o_stR (n34.ne rfl n27.at_) (n34.ne rfl (n27.ne rfl n26.at_)) W30.bk (by kernel_rfl) rfl (by simp [Value.oneCell'])) W30.bk (fun w35 u36 u36b => ?_)
    have G37 : Gr w w35 := Below.upd G32 l31 u36
    refine wpList_nil ?_
    refine th_n (hK22 _ _ ?_)
    refine wp_seq_k (fun K38 hK38 => ?_)
    refine wp_region_lit ?_
    have e39 := n34.ne rfl (n27.ne rfl (n26.ne rfl (n25.ne rfl (n23.ne rfl (n18.ne rfl s1I10)))))
    refine sv n34.ok rfl (wn _ rfl) rfl (o_mv e39) (fun an40 n40 => ?_)
    refine sv n40.ok rfl (wn _ rfl) rfl (o_ldR (n40.ne rfl (n34.ne rfl n27.at_)) u36b Try.underlying38 rfl (by kernel_rfl)) (fun an41 n41 => ?_)
    refine sc n41.ok rfl (wn _ rfl) rfl (o_fv1 (caps := caps) hf (n41.ne rfl n40.at_) n41.at_) (hc _ (List.mem_of_getElem? h24x) w35 G37) ?_
    rintro _ w43 ⟨rfl, g44⟩
    refine ⟨_, rfl, fun an42 n42 => ?_⟩
    have G45 := G37.trans g44
    have B46 := u36b.gr g44
    refine wpList_nil ?_
    refine th_n (hK38 _ _ ?_)
    cases c47 : (p xh24)
    · refine wp_cond_false ((n42.at_).trans (congrArg Value.bool (c47))) ?_
      refine wp_skip ?_
      refine ib_n ?_
      refine th_n (hK21 _ _ ?_)
      refine wp_region_lit ?_
      have e48 := n42.ne rfl (n41.ne rfl (n40.ne rfl (n34.ne rfl (n27.ne rfl (n26.ne rfl (n25.ne rfl (n23.ne rfl (n18.ne rfl s10I10))))))))
      refine sv n42.ok rfl (wn _ rfl) rfl (o_add (r := ((i + 1 : Nat) : Int)) e48 ev_const (by omega) (by omega)) (fun an49 n49 => ?_)
      refine sv n49.ok rfl (wn _ rfl) rfl (o_mv n49.at_) (fun an50 n50 => ?_)
      refine wpList_nil ?_
      have e51 := n50.ne rfl (n49.ne rfl (n42.ne rfl (n41.ne rfl (n40.ne rfl (n34.ne rfl (n27.ne rfl (n26.ne rfl (n25.ne rfl (n23.ne rfl (n18.ne rfl s5I10))))))))))
      have e52 := n50.ne rfl (n49.ne rfl (n42.ne rfl (n41.ne rfl (n40.ne rfl e39))))
      have e53 := n50.ne rfl (n49.ne rfl (n42.ne rfl (n41.ne rfl (n40.ne rfl (n34.ne rfl (n27.ne rfl (n26.ne rfl (n25.ne rfl (n23.ne rfl (n18.ne rfl s4I10))))))))))
      have e54 := n50.ne rfl (n49.ne rfl (n42.ne rfl (n41.ne rfl (n40.ne rfl (n34.ne rfl (n27.ne rfl (n26.ne rfl (n25.ne rfl (n23.ne rfl (n18.ne rfl s8I10))))))))))
      have e55 := n50.ne rfl (n49.ne rfl (n42.ne rfl (n41.ne rfl (n40.ne rfl (n34.ne rfl (n27.ne rfl (n26.ne rfl (n25.ne rfl (n23.ne rfl (n18.ne rfl s9I10))))))))))
      exact th_n (hKI10 _ _ _ (by omega) ⟨i + 1, rfl, n50.ok, G45, e52, e53, (by rw [mkTo_no h24x c47]; exact e51), e54, e55, n50.at_, by omega⟩)
    · refine wp_cond_true ((n42.at_).trans (congrArg Value.bool (c47))) ?_
      refine wp_region_lit ?_
      have e56 := n42.ne rfl (n41.ne rfl (n40.ne rfl (n34.ne rfl (n27.ne rfl (n26.ne rfl (n25.ne rfl (n23.ne rfl (n18.ne rfl s5I10))))))))
      refine sv n42.ok rfl (wn _ rfl) rfl (o_mv e56) (fun an57 n57 => ?_)
      have e58 := n57.ne rfl (n42.ne rfl (n41.ne rfl (n40.ne rfl n34.at_)))
      refine sv n57.ok rfl (wn _ rfl) rfl (o_mv e58) (fun an59 n59 => ?_)
      refine sv n59.ok rfl (wn _ rfl) rfl (o_shl32 (n := i) ev_const n59.at_ (by omega)) (fun an60 n60 => ?_)
      refine sv n60.ok rfl (wn _ rfl) rfl (o_or32 (n60.ne rfl (n59.ne rfl n57.at_)) n60.at_ (mkTo_lt32 _ _ (by omega)) (pow_lt32 (by omega))) (fun an61 n61 => ?_)
      refine sv n61.ok rfl (wn _ rfl) rfl (o_as n61.at_) (fun an62 n62 => ?_)
      refine wpList_nil ?_
      refine ib_n ?_
      refine th_n (hK21 _ _ ?_)
      refine wp_region_lit ?_
      have e63 := n62.ne rfl (n61.ne rfl (n60.ne rfl (n59.ne rfl (n57.ne rfl (n42.ne rfl (n41.ne rfl (n40.ne rfl (n34.ne rfl (n27.ne rfl (n26.ne rfl (n25.ne rfl (n23.ne rfl (n18.ne rfl s10I10)))))))))))))
      refine sv n62.ok rfl (wn _ rfl) rfl (o_add (r := ((i + 1 : Nat) : Int)) e63 ev_const (by omega) (by omega)) (fun an64 n64 => ?_)
      refine sv n64.ok rfl (wn _ rfl) rfl (o_mv n64.at_) (fun an65 n65 => ?_)
      refine wpList_nil ?_
      have e66 := n65.ne rfl (n64.ne rfl (n62.ne rfl (n61.ne rfl (n60.ne rfl (n59.ne rfl (n57.ne rfl (n42.ne rfl (n41.ne rfl (n40.ne rfl e39)))))))))
      have e67 := n65.ne rfl (n64.ne rfl (n62.ne rfl (n61.ne rfl (n60.ne rfl (n59.ne rfl (n57.ne rfl (n42.ne rfl (n41.ne rfl (n40.ne rfl (n34.ne rfl (n27.ne rfl (n26.ne rfl (n25.ne rfl (n23.ne rfl (n18.ne rfl s4I10)))))))))))))))
      have e68 := n65.ne rfl (n64.ne rfl (n62.ne rfl (n61.ne rfl (n60.ne rfl (n59.ne rfl (n57.ne rfl (n42.ne rfl (n41.ne rfl (n40.ne rfl (n34.ne rfl (n27.ne rfl (n26.ne rfl (n25.ne rfl (n23.ne rfl (n18.ne rfl s8I10)))))))))))))))
      have e69 := n65.ne rfl (n64.ne rfl (n62.ne rfl (n61.ne rfl (n60.ne rfl (n59.ne rfl (n57.ne rfl (n42.ne rfl (n41.ne rfl (n40.ne rfl (n34.ne rfl (n27.ne rfl (n26.ne rfl (n25.ne rfl (n23.ne rfl (n18.ne rfl s9I10)))))))))))))))
      exact th_n (hKI10 _ _ _ (by omega) ⟨i + 1, rfl, n65.ok, G45, e66, e67, (by rw [mkTo_yes h24x c47]; exact (n65.ne rfl (n64.ne rfl n62.at_))), e68, e69, n65.at_, by omega⟩)
  · refine wp_cond_false ((n18.at_).trans (congrArg Value.bool (decide_eq_false c20))) ?_
    refine wp_exit ?_
    refine th_x ?_
    refine th_x ?_
    refine ib_x ?_
    refine th_n (hK5 _ _ ?_)
    refine wp_seq_k (fun K70 hK70 => ?_)
    refine wp_region_lit ?_
    refine sv n18.ok rfl (wn _ rfl) rfl (o_mv (n18.ne rfl s5I10)) (fun an71 n71 => ?_)
    refine sv n71.ok rfl (wn _ rfl) rfl (o_as n71.at_) (fun an72 n72 => ?_)
    refine wpList_nil ?_
    refine th_n (hK70 _ _ ?_)
    refine wp_ret ?_
    exact ret1 n72.ok rfl (n72.at_) ⟨by rw [show mkL p K = mkTo p K i from by unfold mkL; rw [show i = K.length by omega]], GI10⟩
set_option maxHeartbeats 8000000 in
set_option maxRecDepth 100000 in
theorem mark_any (K L : List PtX) (M : List (Nat × Nat)) (va vb ma : Option Addr) (vc vd mc base : Nat) (f : FuncId) (caps : List Value) (p : PtX → Bool) (hf : FnOk Try.prog f) (hl : K.length ≤ 30) (hl2 : L.length ≤ 30) (hM : M.length ≤ 100000) (w0 w : World) (hG : Gr w0 w) (hB : w0.heap.size ≤ base) (hz : base ≤ w.heap.size) (ho : w.ownsRow base 55 2 (.slice ma M.length mc) M.length (flatE encM M)) (hv : RdA encP 3 w va K) (hv2 : RdA encP 3 w vb L) (hc : ∀ x, (x ∈ K ∨ x ∈ L) → ∀ w1, Gr w w1 → Calls Try.prog f (.agg #[.slice x.fa x.fn x.fc, .slice x.va x.vn x.vc, .slice x.ma x.mn x.mc] :: caps).toArray w1 fun e w2 => e = .returned (.bool (p x)) ∧ Gr w1 w2) :
    Calls Try.prog 38 #[.slice ma M.length mc, .slice va K.length vc, .slice vb L.length vd, .func (.func f) #[] caps.toArray] w fun e w' => ∃ u, e = .returned u ∧ w'.ownsRow base 55 2 u (addM M (mkL p K) (mkL p L)).length (flatE encM (addM M (mkL p K) (mkL p L))) ∧ w.grownBy w' (Value.ownBlock (.slice ma M.length mc)) := by
  refine enter (N := 24) Try.func38 rfl rfl rfl (fun a0 ok0 h0 => ?_)
  have e0_0 : a0.eval (.tmp 0) = .slice ma M.length mc := h0 0 _ rfl
  have e0_1 : a0.eval (.tmp 1) = .slice va K.length vc := h0 1 _ rfl
  have e0_2 : a0.eval (.tmp 2) = .slice vb L.length vd := h0 2 _ rfl
  have e0_3 : a0.eval (.tmp 3) = .func (.func f) #[] caps.toArray := h0 3 _ rfl
  clear h0
  have A2 := Gr.refl w
  refine wp_seq_k (fun K3 hK3 => ?_)
  refine wp_region_lit ?_
  refine sv ok0 rfl (wn _ rfl) rfl (o_as ev_const) (fun an4 n4 => ?_)
  refine wpList_nil ?_
  refine th_n (hK3 _ _ ?_)
  refine wp_seq_k (fun K5 hK5 => ?_)
  refine wp_seq_k (fun K6 hK6 => ?_)
  refine wp_region_lit ?_
  refine sv n4.ok rfl (wn _ rfl) rfl (o_mv (n4.ne rfl e0_1)) (fun an7 n7 => ?_)
  refine sv n7.ok rfl (wn _ rfl) rfl (o_mv (n7.ne rfl (n4.ne rfl e0_3))) (fun an8 n8 => ?_)
  refine sc n8.ok rfl (wn _ rfl) rfl (o_f2 Try.func56 rfl rfl rfl (n8.ne rfl n7.at_) n8.at_) (bitsOf_any K va vc f caps p hf (by omega) w (hv.gr A2) (fun x hx w1 g1 => hc x (.inl hx) w1 (A2.trans g1))) ?_
  rintro _ w10 ⟨rfl, g11⟩
  refine ⟨_, rfl, fun an9 n9 => ?_⟩
  have G12 := hG.trans g11
  have A13 := A2.trans g11
  have z14 := Nat.le_trans hz g11.size
  have O15 := ow_gr ho g11
  have F16 := gb_gr (gb_self : w.grownBy w (Value.ownBlock (.slice ma M.length mc))) g11
  refine sv n9.ok rfl (wn _ rfl) rfl (o_as n9.at_) (fun an17 n17 => ?_)
  refine wpList_nil ?_
  refine th_n (hK6 _ _ ?_)
  refine wp_seq_k (fun K18 hK18 => ?_)
  refine wp_region_lit ?_
  refine sv n17.ok rfl (wn _ rfl) rfl (o_mv n17.at_) (fun an19 n19 => ?_)
  refine sv n19.ok rfl (wn _ rfl) rfl (o_neI n19.at_ ev_const) (fun an20 n20 => ?_)
  refine wpList_nil ?_
  refine th_n (hK18 _ _ ?_)
  by_cases c21 : ¬ (((mkL p K) : Nat) : Int) = 0
  · refine wp_cond_true ((n20.at_).trans (congrArg Value.bool (decide_eq_true c21))) ?_
    refine wp_seq_k (fun K22 hK22 => ?_)
    refine wp_region_lit ?_
    have e23 := n20.ne rfl (n19.ne rfl (n17.ne rfl (n9.ne rfl (n8.ne rfl (n7.ne rfl (n4.ne rfl e0_0))))))
    refine sv n20.ok rfl (wn _ rfl) rfl (o_mv e23) (fun an24 n24 => ?_)
    have e25 := n24.ne rfl (n20.ne rfl (n19.ne rfl n17.at_))
    refine sv n24.ok rfl (wn _ rfl) rfl (o_mv e25) (fun an26 n26 => ?_)
    have e27 := n26.ne rfl (n24.ne rfl (n20.ne rfl (n19.ne rfl (n17.ne rfl (n9.ne rfl (n8.ne rfl (n7.ne rfl (n4.ne rfl e0_2))))))))
    refine sv n26.ok rfl (wn _ rfl) rfl (o_mv e27) (fun an28 n28 => ?_)
    have e29 := n28.ne rfl (n26.ne rfl (n24.ne rfl (n20.ne rfl (n19.ne rfl (n17.ne rfl (n9.ne rfl (n8.ne rfl (n7.ne rfl (n4.ne rfl e0_3)))))))))
    refine sv n28.ok rfl (wn _ rfl) rfl (o_mv e29) (fun an30 n30 => ?_)
    refine sc n30.ok rfl (wn _ rfl) rfl (o_f2 Try.func56 rfl rfl rfl (n30.ne rfl n28.at_) n30.at_) (bitsOf_any L vb vd f caps p hf (by omega) w10 (hv2.gr A13) (fun x hx w1 g1 => hc x (.inr hx) w1 (A13.trans g1))) ?_
    rintro _ w32 ⟨rfl, g33⟩
    refine ⟨_, rfl, fun an31 n31 => ?_⟩
    have G34 := G12.trans g33
    have A35 := A13.trans g33
    have z36 := Nat.le_trans z14 g33.size
    have O37 := ow_gr O15 g33
    have F38 := gb_gr F16 g33
    have e39 := n31.ne rfl (n30.ne rfl (n28.ne rfl n26.at_))
    refine sv n31.ok rfl (wn _ rfl) rfl (o_bd (cells := #[.int .u32 (((mkL p K) : Nat) : Int), .int .u32 (((mkL p L) : Nat) : Int)]) (vs := [(0, .int .u32 (((mkL p K) : Nat) : Int)), (1, .int .u32 (((mkL p L) : Nat) : Int))]) (by simp [e39, n31.at_, ev_const]) (by kernel_rfl)) (fun an40 n40 => ?_)
    obtain ⟨i41, i41a, i41b, i41c⟩ := info3_of (show (Try.prog.info? 55).map (fun i => (i.zero, i.size)) = some (some (.agg #[.int .u32 0, .int .u32 0]), 2) by kernel_rfl)
    refine sals (cs := #[.int .u32 (((mkL p K) : Nat) : Int), .int .u32 (((mkL p L) : Nat) : Int)]) n40.ok rfl (wn _ rfl) rfl (o_bs (vs := [(0, .agg #[.int .u32 (((mkL p K) : Nat) : Int), .int .u32 (((mkL p L) : Nat) : Int)])]) (by simp [n40.at_, ev_const]) Try.underlying51 i41a i41b (by rw [i41c]; rfl) (by rw [i41c]; rfl) (by rw [i41c]; kernel_rfl)) (fun an42 w44 b43 W45 n42 => ?_)
    have l46 : w0.heap.size ≤ b43 := by rw [W45.eq]; exact G34.size
    have l47 : w.heap.size ≤ b43 := by rw [W45.eq]; exact A35.size
    have l48 : ∀ k, Value.ownBlock (.slice ma M.length mc) = some k → k < b43 := fun k e => by rw [W45.eq]; exact ow_in O37 k e
    have l49 : w.heap.size ≤ b43 := by rw [W45.eq]; exact F38.size
    have G50 := G34.trans W45.gr
    have A51 := A35.trans W45.gr
    have z52 := Nat.le_trans z36 W45.gr.size
    have O53 := ow_gr O37 W45.gr
    have F54 := gb_gr F38 W45.gr
    have e55 := n42.ne rfl (n40.ne rfl (n31.ne rfl (n30.ne rfl (n28.ne rfl (n26.ne rfl n24.at_)))))
    obtain ⟨i56, i56a, i56b, i56c, i56d⟩ := info_of (show (Try.prog.info? 55).map (fun i => (i.zero, i.size, i.bytes)) = some (some (.agg #[.int .u32 0, .int .u32 0]), 2, 8) by kernel_rfl)
    refine s_app (base := base) (n := M.length) (xs := (flatE encM M)) (m := 1) (news := encM (mkL p K, mkL p L)) n42.ok (wn _ rfl) rfl Try.underlying51 i56a i56b i56c i56d rfl (by omega) e55 O53 n42.at_ rfl ((fun j u hu => by rw [add_n]; exact bk_part W45.bk (k := 0) rfl j u hu)) (encM_ok.one (mkL p K, mkL p L)) (by simp only [maxLen]; omega) (by omega) z52 (fun an57 w58 v59 O62 gg63 n57 => ?_)
    obtain ⟨a60, c61, rfl, c61l⟩ := ow_form O62
    have G64 := Gr.grown G50 gg63 (fun k e => Nat.le_trans hB (ow_lt O53 k e))
    have B65 := W45.bk.grown_ne gg63 l48
    have z67 := Nat.le_trans z52 gg63.size
    have F68 := gb_gb F54 gg63
    have O69 : w58.ownsRow base 55 2 (.slice a60 ((M.length + 1)) c61) ((M.length + 1)) ((flatE encM (M ++ [(mkL p K, mkL p L)]))) := by have h := O62; rw [← flatE_one (enc := encM) (mkL p K, mkL p L), ← flatE_app] at h; exact h
    refine sv n57.ok rfl (wn _ rfl) rfl (o_as n57.at_) (fun an70 n70 => ?_)
    refine wpList_nil ?_
    refine th_n (hK22 _ _ ?_)
    refine wp_ret ?_
    refine th_r ?_
    exact ret1 n70.ok rfl (n70.at_) ⟨_, rfl, by unfold addM; rw [if_neg (by omega)]; simpa using O69, F68⟩
  · refine wp_cond_false ((n20.at_).trans (congrArg Value.bool (decide_eq_false c21))) ?_
    refine wp_skip ?_
    refine th_n (hK5 _ _ ?_)
    refine wp_seq_k (fun K71 hK71 => ?_)
    refine wp_region_lit ?_
    have e72 := n20.ne rfl (n19.ne rfl (n17.ne rfl (n9.ne rfl (n8.ne rfl (n7.ne rfl (n4.ne rfl e0_0))))))
    refine sv n20.ok rfl (wn _ rfl) rfl (o_mv e72) (fun an73 n73 => ?_)
    refine sv n73.ok rfl (wn _ rfl) rfl (o_as n73.at_) (fun an74 n74 => ?_)
    refine wpList_nil ?_
    refine th_n (hK71 _ _ ?_)
    refine wp_ret ?_
    exact ret1 n74.ok rfl (n74.at_) ⟨_, rfl, by unfold addM; rw [if_pos (by omega)]; exact O15, F16⟩
set_option maxHeartbeats 8000000 in
set_option maxRecDepth 100000 in
theorem different_any (M : List (Nat × Nat)) (ma : Option Addr) (mc base : Nat) (hl : M.length ≤ 5000) (w0 w : World) (hG : Gr w0 w) (hB : w0.heap.size ≤ base) (hz : base ≤ w.heap.size) (ho : w.ownsRow base 55 2 (.slice ma M.length mc) M.length (flatE encM M)) :
    Calls Try.prog 40 #[.slice ma M.length mc] w fun e w' => ∃ (M2 : List (Nat × Nat)) (u : Value), e = .returned u ∧ w'.ownsRow base 55 2 u M2.length (flatE encM M2) ∧ (∀ m, m ∈ M2 ↔ m ∈ M) ∧ M2.length ≤ M.length ∧ w.grownBy w' (Value.ownBlock (.slice ma M.length mc)) := by
  refine enter (N := 7) Try.func40 rfl rfl rfl (fun a0 ok0 h0 => ?_)
  have e0_0 : a0.eval (.tmp 0) = .slice ma M.length mc := h0 0 _ rfl
  clear h0
  refine wp_seq_k (fun K1 hK1 => ?_)
  refine wp_region_lit ?_
  refine sv ok0 rfl (wn _ rfl) rfl (o_as ev_const) (fun an2 n2 => ?_)
  refine wpList_nil ?_
  refine th_n (hK1 _ _ ?_)
  refine wp_seq_k (fun K3 hK3 => ?_)
  refine wp_region_lit ?_
  refine sv n2.ok rfl (wn _ rfl) rfl (o_mv (n2.ne rfl e0_0)) (fun an4 n4 => ?_)
  refine sc n4.ok rfl (wn _ rfl) rfl (o_f2 Try.func57 rfl rfl rfl n4.at_ ev_func) (sort_ownM M _ w base hl ho) ?_
  rintro _ w6 ⟨rfl, M1, hp1, -, ho1, g7⟩
  refine ⟨_, rfl, fun an5 n5 => ?_⟩
  have G8 := Gr.grown hG g7 (fun k e => Nat.le_trans hB (ow_lt ho k e))
  have z9 := Nat.le_trans hz g7.size
  have F10 := gb_gb (gb_self : w.grownBy w (Value.ownBlock (.slice ma M.length mc))) g7
  refine wpList_nil ?_
  refine th_n (hK3 _ _ ?_)
  refine wp_seq_k (fun K11 hK11 => ?_)
  refine wp_region_lit ?_
  have e12 := n5.ne rfl (n4.ne rfl (n2.ne rfl e0_0))
  refine sv n5.ok rfl (wn _ rfl) rfl (o_mv e12) (fun an13 n13 => ?_)
  refine sc n13.ok rfl (wn _ rfl) rfl (o_f1 Try.func61 rfl rfl rfl n13.at_) (compact_ownM M1 _ w6 base (by rw [hp1.length_eq]; exact hl) ho1) ?_
  rintro _ w15 ⟨u2, rfl, hob2, ho2, g16⟩
  obtain ⟨da, dc, rfl, -⟩ := ow_form ho2
  refine ⟨_, rfl, fun an14 n14 => ?_⟩
  have G17 := Gr.grown G8 g16 (fun k e => Nat.le_trans hB (ow_lt ho1 k e))
  have z18 := Nat.le_trans z9 g16.size
  have F19 := gb_gb F10 g16
  refine sv n14.ok rfl (wn _ rfl) rfl (o_as n14.at_) (fun an20 n20 => ?_)
  refine wpList_nil ?_
  refine th_n (hK11 _ _ ?_)
  refine wp_ret ?_
  exact ret1 n20.ok rfl (n20.at_) ⟨ddT M1 M1.length, _, rfl, ho2, fun m => by rw [ddT_all_mem]; exact hp1.mem_iff, by have := ddT_len M1 M1.length; rw [hp1.length_eq] at this ⊢; exact this, F19⟩
set_option maxHeartbeats 8000000 in
set_option maxRecDepth 100000 in
theorem marksOfPoints_any (K L : List PtX) (va vb : Option Addr) (vc vd : Nat) (hl : K.length ≤ 30) (hl2 : L.length ≤ 30) (w : World) (hv : RdA encP 3 w va K) (hv2 : RdA encP 3 w vb L) (hm : MeansP w K) (hm2 : MeansP w L) :
    Calls Try.prog 21 #[.slice va K.length vc, .slice vb L.length vd] w fun e w' => ∃ (M2 : List (Nat × Nat)) (u : Value), e = .returned u ∧ w'.ownsRow w.heap.size 55 2 u M2.length (flatE encM M2) ∧ (∀ m, m ∈ M2 ↔ MQ mkP 32 K L 16 0 m) ∧ M2.length ≤ 5000 ∧ Gr w w' := by
  refine enter (N := 27) Try.func21 rfl rfl rfl (fun a0 ok0 h0 => ?_)
  have e0_0 : a0.eval (.tmp 0) = .slice va K.length vc := h0 0 _ rfl
  have e0_1 : a0.eval (.tmp 1) = .slice vb L.length vd := h0 1 _ rfl
  clear h0
  have G0 := Gr.refl w
  obtain ⟨base, z1⟩ : ∃ n, n = w.heap.size := ⟨_, rfl⟩
  have l2 : w.heap.size ≤ base := by rw [z1]; exact G0.size
  have z3 : base ≤ w.heap.size := Nat.le_of_eq z1
  have O4 := World.ownsRow_nil w base 55 2
  refine wp_seq_k (fun K5 hK5 => ?_)
  refine wp_region_lit ?_
  refine sv ok0 rfl (wn _ rfl) rfl (o_as ev_const) (fun an6 n6 => ?_)
  refine wpList_nil ?_
  refine th_n (hK5 _ _ ?_)
  refine wp_seq_k (fun K7 hK7 => ?_)
  refine wp_region_lit ?_
  refine sv n6.ok rfl (wn _ rfl) rfl (o_as ev_const) (fun an8 n8 => ?_)
  refine wpList_nil ?_
  refine th_n (hK7 _ _ ?_)
  refine wp_seq_k (fun K9 hK9 => ?_)
  refine wp_seq_k (fun K10 hK10 => ?_)
  refine wp_region_lit ?_
  refine sv n8.ok rfl (wn _ rfl) rfl (o_mv ev_const) (fun an11 n11 => ?_)
  refine wpList_nil ?_
  refine th_n (hK10 _ _ ?_)
  refine wp_block ?_
  have e13 := n11.ne rfl (n8.ne rfl (n6.ne rfl e0_0))
  have e14 := n11.ne rfl (n8.ne rfl (n6.ne rfl e0_1))
  refine lp (fun (nL : Nat) (aL : Act) (wL : World) => ∃ i : Nat, ∃ M : List (Nat × Nat), ∃ ma : Option Addr, ∃ mc : Nat, nL = 16 - i ∧ Ok 27 aL ∧ Gr w wL ∧ (aL.eval (.tmp 0) = .slice va K.length vc) ∧ (aL.eval (.tmp 1) = .slice vb L.length vd) ∧ (aL.eval (.tmp 4) = .slice none 0 0) ∧ (aL.eval (.tmp 5) = .slice ma M.length mc) ∧ (aL.eval (.tmp 9) = .int .i64 (i : Int)) ∧ (World.ownsRow wL base 55 2 (.slice ma M.length mc) (M.length) ((flatE encM M))) ∧ (base ≤ wL.heap.size) ∧ (i ≤ 16) ∧ (∀ m, m ∈ M ↔ MQ mkP 32 K L i 0 m) ∧ (M.length ≤ i * 32)) _ ⟨0, [], none, 0, rfl, n11.ok, G0, e13, e14, (n11.ne rfl (n8.ne rfl n6.at_)), (n11.ne rfl n8.at_), n11.at_, O4, z3, by omega, mq_start, by simp⟩ ?_
  rintro m15 aI12 w17 ⟨i, M, ma, mc, hmI12, okI12, GI12, s0I12, s1I12, s4I12, s5I12, s9I12, omlI12, zbaseI12, hiI12, hMI12, hMlI12⟩ KI12 hKI12
  refine wp_seq_k (fun K18 hK18 => ?_)
  refine wp_region_lit ?_
  refine sv okI12 rfl (wn _ rfl) rfl (o_ltI s9I12 ev_const) (fun an19 n19 => ?_)
  refine wpList_nil ?_
  refine th_n (hK18 _ _ ?_)
  refine wp_seq_k (fun K20 hK20 => ?_)
  by_cases c21 : (i : Int) < 16
  · refine wp_cond_true ((n19.at_).trans (congrArg Value.bool (decide_eq_true c21))) ?_
    refine wp_skip ?_
    refine th_n (hK20 _ _ ?_)
    refine wp_seq_k (fun K22 hK22 => ?_)
    refine wp_block ?_
    refine wp_seq_k (fun K23 hK23 => ?_)
    refine wp_region_lit ?_
    refine sv n19.ok rfl (wn _ rfl) rfl (o_mv (n19.ne rfl s9I12)) (fun an24 n24 => ?_)
    refine sv n24.ok rfl (wn _ rfl) rfl (o_as n24.at_) (fun an25 n25 => ?_)
    refine wpList_nil ?_
    refine th_n (hK23 _ _ ?_)
    refine wp_seq_k (fun K26 hK26 => ?_)
    refine wp_region_lit ?_
    refine sv n25.ok rfl (wn _ rfl) rfl (o_mv ev_const) (fun an27 n27 => ?_)
    refine wpList_nil ?_
    refine th_n (hK26 _ _ ?_)
    refine wp_block ?_
    have e29 := n27.ne rfl (n25.ne rfl (n24.ne rfl (n19.ne rfl s0I12)))
    have e30 := n27.ne rfl (n25.ne rfl (n24.ne rfl (n19.ne rfl s1I12)))
    have e31 := n27.ne rfl (n25.ne rfl (n24.ne rfl (n19.ne rfl s4I12)))
    have e32 := n27.ne rfl (n25.ne rfl (n24.ne rfl (n19.ne rfl s5I12)))
    have e33 := n27.ne rfl (n25.ne rfl (n24.ne rfl (n19.ne rfl s9I12)))
    refine lp (fun (nL : Nat) (aL : Act) (wL : World) => ∃ j : Nat, ∃ M : List (Nat × Nat), ∃ ma : Option Addr, ∃ mc : Nat, nL = 32 - j ∧ Ok 27 aL ∧ Gr w wL ∧ (aL.eval (.tmp 0) = .slice va K.length vc) ∧ (aL.eval (.tmp 1) = .slice vb L.length vd) ∧ (aL.eval (.tmp 4) = .slice none 0 0) ∧ (aL.eval (.tmp 5) = .slice ma M.length mc) ∧ (aL.eval (.tmp 6) = .int .i64 (i : Int)) ∧ (aL.eval (.tmp 9) = .int .i64 (i : Int)) ∧ (aL.eval (.tmp 12) = .int .i64 (j : Int)) ∧ (World.ownsRow wL base 55 2 (.slice ma M.length mc) (M.length) ((flatE encM M))) ∧ (base ≤ wL.heap.size) ∧ (j ≤ 32) ∧ (∀ m, m ∈ M ↔ MQ mkP 32 K L i j m) ∧ (M.length ≤ i * 32 + j)) _ ⟨0, M, ma, mc, rfl, n27.ok, GI12, e29, e30, e31, e32, (n27.ne rfl n25.at_), e33, n27.at_, omlI12, zbaseI12, by omega, hMI12, by omega⟩ ?_
    rintro m34 aI28 w36 ⟨j, M, ma, mc, hmI28, okI28, GI28, s0I28, s1I28, s4I28, s5I28, s6I28, s9I28, s12I28, omlI28, zbaseI28, hjI28, hMI28, hMlI28⟩ KI28 hKI28
    refine wp_seq_k (fun K37 hK37 => ?_)
    refine wp_region_lit ?_
    refine sv okI28 rfl (wn _ rfl) rfl (o_ltI s12I28 ev_const) (fun an38 n38 => ?_)
    refine wpList_nil ?_
    refine th_n (hK37 _ _ ?_)
    refine wp_seq_k (fun K39 hK39 => ?_)
    by_cases c40 : (j : Int) < 32
    · refine wp_cond_true ((n38.at_).trans (congrArg Value.bool (decide_eq_true c40))) ?_
      refine wp_skip ?_
      refine th_n (hK39 _ _ ?_)
      refine wp_seq_k (fun K41 hK41 => ?_)
      refine wp_block ?_
      refine wp_seq_k (fun K42 hK42 => ?_)
      refine wp_region_lit ?_
      refine sv n38.ok rfl (wn _ rfl) rfl (o_mv (n38.ne rfl s12I28)) (fun an43 n43 => ?_)
      refine sv n43.ok rfl (wn _ rfl) rfl (o_as n43.at_) (fun an44 n44 => ?_)
      refine wpList_nil ?_
      refine th_n (hK42 _ _ ?_)
      refine wp_seq_k (fun K45 hK45 => ?_)
      refine wp_region_lit ?_
      have e46 := n44.ne rfl (n43.ne rfl (n38.ne rfl s6I28))
      refine sv n44.ok rfl (wn _ rfl) rfl (o_mv e46) (fun an47 n47 => ?_)
      refine sv n47.ok rfl (wn _ rfl) rfl (o_mv (n47.ne rfl n44.at_)) (fun an48 n48 => ?_)
      refine sv n48.ok rfl (wn _ rfl) rfl (o_bd (cells := #[.int .i64 (i : Int), .int .i64 (j : Int)]) (vs := [(0, .int .i64 (i : Int)), (1, .int .i64 (j : Int))]) (by simp [(n48.ne rfl n47.at_), n48.at_, ev_const]) (by kernel_rfl)) (fun an49 n49 => ?_)
      refine sal (cs := #[.int .i64 0, .int .i64 0]) n49.ok rfl (wn _ rfl) rfl (o_al (z := .agg #[.int .i64 0, .int .i64 0]) (by kernel_rfl)) (fun an50 w52 b51 W53 n50 => ?_)
      have l54 : w.heap.size ≤ b51 := by rw [W53.eq]; exact GI28.size
      have l55 : ∀ k, Value.ownBlock (.slice ma M.length mc) = some k → k < b51 := fun k e => by rw [W53.eq]; exact ow_in omlI28 k e
      have G56 := GI28.trans W53.gr
      have z57 := Nat.le_trans zbaseI28 W53.gr.size
      have O58 := ow_gr omlI28 W53.gr
      refine ssR rfl (wn _ rfl) (o_stR n50.at_ (n50.ne rfl n49.at_) W53.bk (by kernel_rfl) rfl (by simp [Value.oneCell'])) W53.bk (fun w59 u60 u60b => ?_)
      have G61 : Gr w w59 := Below.upd G56 l54 u60
      have z62 : base ≤ w59.heap.size := by rw [u60.size]; exact z57
      have O63 := ow_upd_ne O58 u60 l55
      refine wpList_nil ?_
      refine th_n (hK45 _ _ ?_)
      refine wp_region_lit ?_
      have e64 := n50.ne rfl (n49.ne rfl (n48.ne rfl (n47.ne rfl (n44.ne rfl (n43.ne rfl (n38.ne rfl s5I28))))))
      refine sv n50.ok rfl (wn _ rfl) rfl (o_mv e64) (fun an65 n65 => ?_)
      have e66 := n65.ne rfl (n50.ne rfl (n49.ne rfl (n48.ne rfl (n47.ne rfl (n44.ne rfl (n43.ne rfl (n38.ne rfl s0I28)))))))
      refine sv n65.ok rfl (wn _ rfl) rfl (o_mv e66) (fun an67 n67 => ?_)
      have e68 := n67.ne rfl (n65.ne rfl (n50.ne rfl (n49.ne rfl (n48.ne rfl (n47.ne rfl (n44.ne rfl (n43.ne rfl (n38.ne rfl s1I28))))))))
      refine sv n67.ok rfl (wn _ rfl) rfl (o_mv e68) (fun an69 n69 => ?_)
      have e70 := n69.ne rfl (n67.ne rfl (n65.ne rfl n50.at_))
      refine sv n69.ok rfl (wn _ rfl) rfl (o_mf (fs := []) (cs := [.pointer (some ⟨b51, 0, none⟩)]) (by simp) (by simp [e70])) (fun an71 n71 => ?_)
      have e72 := n71.ne rfl (n69.ne rfl (n67.ne rfl n65.at_))
      refine sc n71.ok rfl (wn _ rfl) rfl (o_f4 Try.func38 rfl rfl rfl e72 (n71.ne rfl (n69.ne rfl n67.at_)) (n71.ne rfl n69.at_) n71.at_) (mark_any K L M va vb ma vc vd mc base _ [.pointer (some ⟨b51, 0, none⟩)] (fun x => bitT x.T (i : Int) (j : Int)) ⟨_, Try.func41, rfl, rfl⟩ hl hl2 (by omega) w w59 G61 l2 z62 O63 (hv.gr G61) (hv2.gr G61) (fun x hx w1 g1 => mop1_any x b51 (i : Int) (j : Int) w1 ((hx.elim (hm x) (hm2 x)).gr (G61.trans g1)) (u60b.gr g1))) ?_
      rintro _ w74 ⟨u1, rfl, ho1, g75⟩
      obtain ⟨ua, uc, rfl, -⟩ := ow_form ho1
      have hAl := addM_len M (mkP i j K) (mkP i j L)
      refine ⟨_, rfl, fun an73 n73 => ?_⟩
      have G76 := Gr.grown G61 g75 (fun k e => Nat.le_trans l2 (ow_lt O63 k e))
      have B77 := u60b.grown_ne g75 l55
      have z78 := Nat.le_trans z62 g75.size
      refine sv n73.ok rfl (wn _ rfl) rfl (o_as n73.at_) (fun an79 n79 => ?_)
      refine wpList_nil ?_
      refine ib_n ?_
      refine th_n (hK41 _ _ ?_)
      refine wp_region_lit ?_
      have e80 := n79.ne rfl (n73.ne rfl (n71.ne rfl (n69.ne rfl (n67.ne rfl (n65.ne rfl (n50.ne rfl (n49.ne rfl (n48.ne rfl (n47.ne rfl (n44.ne rfl (n43.ne rfl (n38.ne rfl s12I28))))))))))))
      refine sv n79.ok rfl (wn _ rfl) rfl (o_add (r := ((j + 1 : Nat) : Int)) e80 ev_const (by omega) (by omega)) (fun an81 n81 => ?_)
      refine sv n81.ok rfl (wn _ rfl) rfl (o_mv n81.at_) (fun an82 n82 => ?_)
      refine wpList_nil ?_
      have e83 := n82.ne rfl (n81.ne rfl (n79.ne rfl (n73.ne rfl (n71.ne rfl (n69.ne rfl (n67.ne rfl e66))))))
      have e84 := n82.ne rfl (n81.ne rfl (n79.ne rfl (n73.ne rfl (n71.ne rfl (n69.ne rfl e68)))))
      have e85 := n82.ne rfl (n81.ne rfl (n79.ne rfl (n73.ne rfl (n71.ne rfl (n69.ne rfl (n67.ne rfl (n65.ne rfl (n50.ne rfl (n49.ne rfl (n48.ne rfl (n47.ne rfl (n44.ne rfl (n43.ne rfl (n38.ne rfl s4I28))))))))))))))
      have e86 := n82.ne rfl (n81.ne rfl (n79.ne rfl (n73.ne rfl (n71.ne rfl (n69.ne rfl (n67.ne rfl (n65.ne rfl (n50.ne rfl (n49.ne rfl (n48.ne rfl (n47.ne rfl e46)))))))))))
      have e87 := n82.ne rfl (n81.ne rfl (n79.ne rfl (n73.ne rfl (n71.ne rfl (n69.ne rfl (n67.ne rfl (n65.ne rfl (n50.ne rfl (n49.ne rfl (n48.ne rfl (n47.ne rfl (n44.ne rfl (n43.ne rfl (n38.ne rfl s9I28))))))))))))))
      exact th_n (hKI28 _ _ _ (by omega) ⟨j + 1, (addM M (mkP i j K) (mkP i j L)), ua, uc, rfl, n82.ok, G76, e83, e84, e85, (n82.ne rfl (n81.ne rfl n79.at_)), e86, e87, n82.at_, ho1, z78, by omega, mq_add hMI28 (by omega), by omega⟩)
    · refine wp_cond_false ((n38.at_).trans (congrArg Value.bool (decide_eq_false c40))) ?_
      refine wp_exit ?_
      refine th_x ?_
      refine th_x ?_
      refine ib_x ?_
      refine ib_n ?_
      refine th_n (hK22 _ _ ?_)
      refine wp_region_lit ?_
      refine sv n38.ok rfl (wn _ rfl) rfl (o_add (r := ((i + 1 : Nat) : Int)) (n38.ne rfl s9I28) ev_const (by omega) (by omega)) (fun an88 n88 => ?_)
      refine sv n88.ok rfl (wn _ rfl) rfl (o_mv n88.at_) (fun an89 n89 => ?_)
      refine wpList_nil ?_
      have e90 := n89.ne rfl (n88.ne rfl (n38.ne rfl s0I28))
      have e91 := n89.ne rfl (n88.ne rfl (n38.ne rfl s1I28))
      have e92 := n89.ne rfl (n88.ne rfl (n38.ne rfl s4I28))
      have e93 := n89.ne rfl (n88.ne rfl (n38.ne rfl s5I28))
      exact th_n (hKI12 _ _ _ (by omega) ⟨i + 1, M, ma, mc, rfl, n89.ok, GI28, e90, e91, e92, e93, n89.at_, omlI28, zbaseI28, by omega, mq_next hMI28 (by omega), by omega⟩)
  · refine wp_cond_false ((n19.at_).trans (congrArg Value.bool (decide_eq_false c21))) ?_
    refine wp_exit ?_
    refine th_x ?_
    refine th_x ?_
    refine ib_x ?_
    refine th_n (hK9 _ _ ?_)
    refine wp_seq_k (fun K94 hK94 => ?_)
    refine wp_region_lit ?_
    refine sv n19.ok rfl (wn _ rfl) rfl (o_mv (n19.ne rfl s5I12)) (fun an95 n95 => ?_)
    refine sc n95.ok rfl (wn _ rfl) rfl (o_f1 Try.func40 rfl rfl rfl n95.at_) (different_any M ma mc base (by omega) w w17 GI12 l2 zbaseI12 omlI12) ?_
    rintro _ w97 ⟨M2, u2, rfl, ho2, hM2, hM2l, g98⟩
    obtain ⟨da, dc, rfl, -⟩ := ow_form ho2
    refine ⟨_, rfl, fun an96 n96 => ?_⟩
    have G99 := Gr.grown GI12 g98 (fun k e => Nat.le_trans l2 (ow_lt omlI12 k e))
    have z100 := Nat.le_trans zbaseI12 g98.size
    refine sv n96.ok rfl (wn _ rfl) rfl (o_as n96.at_) (fun an101 n101 => ?_)
    refine wpList_nil ?_
    refine th_n (hK94 _ _ ?_)
    refine wp_ret ?_
    exact ret1 n101.ok rfl (n101.at_) ⟨M2, _, rfl, z1 ▸ ho2, fun m => by rw [hM2 m, hMI12 m, show i = 16 by omega], by omega, G99⟩
set_option maxHeartbeats 8000000 in
set_option maxRecDepth 100000 in
theorem marksOfDots_any (K L : List PtX) (va vb : Option Addr) (vc vd : Nat) (hl : K.length ≤ 30) (hl2 : L.length ≤ 30) (w : World) (hv : RdA encP 3 w va K) (hv2 : RdA encP 3 w vb L) (hm : MeansP w K) (hm2 : MeansP w L) :
    Calls Try.prog 20 #[.slice va K.length vc, .slice vb L.length vd] w fun e w' => ∃ (M2 : List (Nat × Nat)) (u : Value), e = .returned u ∧ w'.ownsRow w.heap.size 55 2 u M2.length (flatE encM M2) ∧ (∀ m, m ∈ M2 ↔ MQ mkD 1000 K L 5 0 m) ∧ M2.length ≤ 5000 ∧ Gr w w' := by
  refine enter (N := 28) Try.func20 rfl rfl rfl (fun a0 ok0 h0 => ?_)
  have e0_0 : a0.eval (.tmp 0) = .slice va K.length vc := h0 0 _ rfl
  have e0_1 : a0.eval (.tmp 1) = .slice vb L.length vd := h0 1 _ rfl
  clear h0
  have G0 := Gr.refl w
  obtain ⟨base, z1⟩ : ∃ n, n = w.heap.size := ⟨_, rfl⟩
  have l2 : w.heap.size ≤ base := by rw [z1]; exact G0.size
  have z3 : base ≤ w.heap.size := Nat.le_of_eq z1
  have O4 := World.ownsRow_nil w base 55 2
  refine wp_seq_k (fun K5 hK5 => ?_)
  refine wp_region_lit ?_
  refine sv ok0 rfl (wn _ rfl) rfl (o_as ev_const) (fun an6 n6 => ?_)
  refine wpList_nil ?_
  refine th_n (hK5 _ _ ?_)
  refine wp_seq_k (fun K7 hK7 => ?_)
  refine wp_region_lit ?_
  refine sv n6.ok rfl (wn _ rfl) rfl (o_as ev_const) (fun an8 n8 => ?_)
  refine wpList_nil ?_
  refine th_n (hK7 _ _ ?_)
  refine wp_seq_k (fun K9 hK9 => ?_)
  refine wp_seq_k (fun K10 hK10 => ?_)
  refine wp_region_lit ?_
  refine sv n8.ok rfl (wn _ rfl) rfl (o_mv ev_const) (fun an11 n11 => ?_)
  refine wpList_nil ?_
  refine th_n (hK10 _ _ ?_)
  refine wp_block ?_
  have e13 := n11.ne rfl (n8.ne rfl (n6.ne rfl e0_0))
  have e14 := n11.ne rfl (n8.ne rfl (n6.ne rfl e0_1))
  refine lp (fun (nL : Nat) (aL : Act) (wL : World) => ∃ i : Nat, ∃ M : List (Nat × Nat), ∃ ma : Option Addr, ∃ mc : Nat, nL = 5 - i ∧ Ok 28 aL ∧ Gr w wL ∧ (aL.eval (.tmp 0) = .slice va K.length vc) ∧ (aL.eval (.tmp 1) = .slice vb L.length vd) ∧ (aL.eval (.tmp 4) = .slice none 0 0) ∧ (aL.eval (.tmp 5) = .slice ma M.length mc) ∧ (aL.eval (.tmp 9) = .int .i64 (i : Int)) ∧ (World.ownsRow wL base 55 2 (.slice ma M.length mc) (M.length) ((flatE encM M))) ∧ (base ≤ wL.heap.size) ∧ (i ≤ 5) ∧ (∀ m, m ∈ M ↔ MQ mkD 1000 K L i 0 m) ∧ (M.length ≤ i * 1000)) _ ⟨0, [], none, 0, rfl, n11.ok, G0, e13, e14, (n11.ne rfl (n8.ne rfl n6.at_)), (n11.ne rfl n8.at_), n11.at_, O4, z3, by omega, mq_start, by simp⟩ ?_
  rintro m15 aI12 w17 ⟨i, M, ma, mc, hmI12, okI12, GI12, s0I12, s1I12, s4I12, s5I12, s9I12, omlI12, zbaseI12, hiI12, hMI12, hMlI12⟩ KI12 hKI12
  refine wp_seq_k (fun K18 hK18 => ?_)
  refine wp_region_lit ?_
  refine sv okI12 rfl (wn _ rfl) rfl (o_ltI s9I12 ev_const) (fun an19 n19 => ?_)
  refine wpList_nil ?_
  refine th_n (hK18 _ _ ?_)
  refine wp_seq_k (fun K20 hK20 => ?_)
  by_cases c21 : (i : Int) < 5
  · refine wp_cond_true ((n19.at_).trans (congrArg Value.bool (decide_eq_true c21))) ?_
    refine wp_skip ?_
    refine th_n (hK20 _ _ ?_)
    refine wp_seq_k (fun K22 hK22 => ?_)
    refine wp_block ?_
    refine wp_seq_k (fun K23 hK23 => ?_)
    refine wp_region_lit ?_
    refine sv n19.ok rfl (wn _ rfl) rfl (o_mv (n19.ne rfl s9I12)) (fun an24 n24 => ?_)
    refine sv n24.ok rfl (wn _ rfl) rfl (o_as n24.at_) (fun an25 n25 => ?_)
    refine wpList_nil ?_
    refine th_n (hK23 _ _ ?_)
    refine wp_seq_k (fun K26 hK26 => ?_)
    refine wp_region_lit ?_
    refine sv n25.ok rfl (wn _ rfl) rfl (o_mv ev_const) (fun an27 n27 => ?_)
    refine wpList_nil ?_
    refine th_n (hK26 _ _ ?_)
    refine wp_block ?_
    have e29 := n27.ne rfl (n25.ne rfl (n24.ne rfl (n19.ne rfl s0I12)))
    have e30 := n27.ne rfl (n25.ne rfl (n24.ne rfl (n19.ne rfl s1I12)))
    have e31 := n27.ne rfl (n25.ne rfl (n24.ne rfl (n19.ne rfl s4I12)))
    have e32 := n27.ne rfl (n25.ne rfl (n24.ne rfl (n19.ne rfl s5I12)))
    have e33 := n27.ne rfl (n25.ne rfl (n24.ne rfl (n19.ne rfl s9I12)))
    refine lp (fun (nL : Nat) (aL : Act) (wL : World) => ∃ j : Nat, ∃ M : List (Nat × Nat), ∃ ma : Option Addr, ∃ mc : Nat, nL = 1000 - j ∧ Ok 28 aL ∧ Gr w wL ∧ (aL.eval (.tmp 0) = .slice va K.length vc) ∧ (aL.eval (.tmp 1) = .slice vb L.length vd) ∧ (aL.eval (.tmp 4) = .slice none 0 0) ∧ (aL.eval (.tmp 5) = .slice ma M.length mc) ∧ (aL.eval (.tmp 6) = .int .i64 (i : Int)) ∧ (aL.eval (.tmp 9) = .int .i64 (i : Int)) ∧ (aL.eval (.tmp 12) = .int .i64 (j : Int)) ∧ (World.ownsRow wL base 55 2 (.slice ma M.length mc) (M.length) ((flatE encM M))) ∧ (base ≤ wL.heap.size) ∧ (j ≤ 1000) ∧ (∀ m, m ∈ M ↔ MQ mkD 1000 K L i j m) ∧ (M.length ≤ i * 1000 + j)) _ ⟨0, M, ma, mc, rfl, n27.ok, GI12, e29, e30, e31, e32, (n27.ne rfl n25.at_), e33, n27.at_, omlI12, zbaseI12, by omega, hMI12, by omega⟩ ?_
    rintro m34 aI28 w36 ⟨j, M, ma, mc, hmI28, okI28, GI28, s0I28, s1I28, s4I28, s5I28, s6I28, s9I28, s12I28, omlI28, zbaseI28, hjI28, hMI28, hMlI28⟩ KI28 hKI28
    refine wp_seq_k (fun K37 hK37 => ?_)
    refine wp_region_lit ?_
    refine sv okI28 rfl (wn _ rfl) rfl (o_ltI s12I28 ev_const) (fun an38 n38 => ?_)
    refine wpList_nil ?_
    refine th_n (hK37 _ _ ?_)
    refine wp_seq_k (fun K39 hK39 => ?_)
    by_cases c40 : (j : Int) < 1000
    · refine wp_cond_true ((n38.at_).trans (congrArg Value.bool (decide_eq_true c40))) ?_
      refine wp_skip ?_
      refine th_n (hK39 _ _ ?_)
      refine wp_seq_k (fun K41 hK41 => ?_)
      refine wp_block ?_
      refine wp_seq_k (fun K42 hK42 => ?_)
      refine wp_region_lit ?_
      refine sv n38.ok rfl (wn _ rfl) rfl (o_mv (n38.ne rfl s12I28)) (fun an43 n43 => ?_)
      refine sv n43.ok rfl (wn _ rfl) rfl (o_as n43.at_) (fun an44 n44 => ?_)
      refine wpList_nil ?_
      refine th_n (hK42 _ _ ?_)
      refine wp_seq_k (fun K45 hK45 => ?_)
      refine wp_region_lit ?_
      have e46 := n44.ne rfl (n43.ne rfl (n38.ne rfl s6I28))
      refine sv n44.ok rfl (wn _ rfl) rfl (o_mv e46) (fun an47 n47 => ?_)
      refine sv n47.ok rfl (wn _ rfl) rfl (o_mv (n47.ne rfl n44.at_)) (fun an48 n48 => ?_)
      refine sv n48.ok rfl (wn _ rfl) rfl (o_add (r := ((j + 1 : Nat) : Int)) n48.at_ ev_const (by omega) (by omega)) (fun an49 n49 => ?_)
      refine sv n49.ok rfl (wn _ rfl) rfl (o_bd (cells := #[.int .i64 (i : Int), .int .i64 ((j + 1 : Nat) : Int)]) (vs := [(0, .int .i64 (i : Int)), (1, .int .i64 ((j + 1 : Nat) : Int))]) (by simp [(n49.ne rfl (n48.ne rfl n47.at_)), n49.at_, ev_const]) (by kernel_rfl)) (fun an50 n50 => ?_)
      refine sal (cs := #[.int .i64 0, .int .i64 0]) n50.ok rfl (wn _ rfl) rfl (o_al (z := .agg #[.int .i64 0, .int .i64 0]) (by kernel_rfl)) (fun an51 w53 b52 W54 n51 => ?_)
      have l55 : w.heap.size ≤ b52 := by rw [W54.eq]; exact GI28.size
      have l56 : ∀ k, Value.ownBlock (.slice ma M.length mc) = some k → k < b52 := fun k e => by rw [W54.eq]; exact ow_in omlI28 k e
      have G57 := GI28.trans W54.gr
      have z58 := Nat.le_trans zbaseI28 W54.gr.size
      have O59 := ow_gr omlI28 W54.gr
      refine ssR rfl (wn _ rfl) (o_stR n51.at_ (n51.ne rfl n50.at_) W54.bk (by kernel_rfl) rfl (by simp [Value.oneCell'])) W54.bk (fun w60 u61 u61b => ?_)
      have G62 : Gr w w60 := Below.upd G57 l55 u61
      have z63 : base ≤ w60.heap.size := by rw [u61.size]; exact z58
      have O64 := ow_upd_ne O59 u61 l56
      refine wpList_nil ?_
      refine th_n (hK45 _ _ ?_)
      refine wp_region_lit ?_
      have e65 := n51.ne rfl (n50.ne rfl (n49.ne rfl (n48.ne rfl (n47.ne rfl (n44.ne rfl (n43.ne rfl (n38.ne rfl s5I28)))))))
      refine sv n51.ok rfl (wn _ rfl) rfl (o_mv e65) (fun an66 n66 => ?_)
      have e67 := n66.ne rfl (n51.ne rfl (n50.ne rfl (n49.ne rfl (n48.ne rfl (n47.ne rfl (n44.ne rfl (n43.ne rfl (n38.ne rfl s0I28))))))))
      refine sv n66.ok rfl (wn _ rfl) rfl (o_mv e67) (fun an68 n68 => ?_)
      have e69 := n68.ne rfl (n66.ne rfl (n51.ne rfl (n50.ne rfl (n49.ne rfl (n48.ne rfl (n47.ne rfl (n44.ne rfl (n43.ne rfl (n38.ne rfl s1I28)))))))))
      refine sv n68.ok rfl (wn _ rfl) rfl (o_mv e69) (fun an70 n70 => ?_)
      have e71 := n70.ne rfl (n68.ne rfl (n66.ne rfl n51.at_))
      refine sv n70.ok rfl (wn _ rfl) rfl (o_mf (fs := []) (cs := [.pointer (some ⟨b52, 0, none⟩)]) (by simp) (by simp [e71])) (fun an72 n72 => ?_)
      have e73 := n72.ne rfl (n70.ne rfl (n68.ne rfl n66.at_))
      refine sc n72.ok rfl (wn _ rfl) rfl (o_f4 Try.func38 rfl rfl rfl e73 (n72.ne rfl (n70.ne rfl n68.at_)) (n72.ne rfl n70.at_) n72.at_) (mark_any K L M va vb ma vc vd mc base _ [.pointer (some ⟨b52, 0, none⟩)] (fun x => hasD x.D (i : Int) ((j + 1 : Nat) : Int)) ⟨_, Try.func39, rfl, rfl⟩ hl hl2 (by omega) w w60 G62 l2 z63 O64 (hv.gr G62) (hv2.gr G62) (fun x hx w1 g1 => mod1_any x b52 (i : Int) ((j + 1 : Nat) : Int) w1 ((hx.elim (hm x) (hm2 x)).gr (G62.trans g1)) (u61b.gr g1))) ?_
      rintro _ w75 ⟨u1, rfl, ho1, g76⟩
      obtain ⟨ua, uc, rfl, -⟩ := ow_form ho1
      have hAl := addM_len M (mkD i j K) (mkD i j L)
      refine ⟨_, rfl, fun an74 n74 => ?_⟩
      have G77 := Gr.grown G62 g76 (fun k e => Nat.le_trans l2 (ow_lt O64 k e))
      have B78 := u61b.grown_ne g76 l56
      have z79 := Nat.le_trans z63 g76.size
      refine sv n74.ok rfl (wn _ rfl) rfl (o_as n74.at_) (fun an80 n80 => ?_)
      refine wpList_nil ?_
      refine ib_n ?_
      refine th_n (hK41 _ _ ?_)
      refine wp_region_lit ?_
      have e81 := n80.ne rfl (n74.ne rfl (n72.ne rfl (n70.ne rfl (n68.ne rfl (n66.ne rfl (n51.ne rfl (n50.ne rfl (n49.ne rfl (n48.ne rfl (n47.ne rfl (n44.ne rfl (n43.ne rfl (n38.ne rfl s12I28)))))))))))))
      refine sv n80.ok rfl (wn _ rfl) rfl (o_add (r := ((j + 1 : Nat) : Int)) e81 ev_const (by omega) (by omega)) (fun an82 n82 => ?_)
      refine sv n82.ok rfl (wn _ rfl) rfl (o_mv n82.at_) (fun an83 n83 => ?_)
      refine wpList_nil ?_
      have e84 := n83.ne rfl (n82.ne rfl (n80.ne rfl (n74.ne rfl (n72.ne rfl (n70.ne rfl (n68.ne rfl e67))))))
      have e85 := n83.ne rfl (n82.ne rfl (n80.ne rfl (n74.ne rfl (n72.ne rfl (n70.ne rfl e69)))))
      have e86 := n83.ne rfl (n82.ne rfl (n80.ne rfl (n74.ne rfl (n72.ne rfl (n70.ne rfl (n68.ne rfl (n66.ne rfl (n51.ne rfl (n50.ne rfl (n49.ne rfl (n48.ne rfl (n47.ne rfl (n44.ne rfl (n43.ne rfl (n38.ne rfl s4I28)))))))))))))))
      have e87 := n83.ne rfl (n82.ne rfl (n80.ne rfl (n74.ne rfl (n72.ne rfl (n70.ne rfl (n68.ne rfl (n66.ne rfl (n51.ne rfl (n50.ne rfl (n49.ne rfl (n48.ne rfl (n47.ne rfl e46))))))))))))
      have e88 := n83.ne rfl (n82.ne rfl (n80.ne rfl (n74.ne rfl (n72.ne rfl (n70.ne rfl (n68.ne rfl (n66.ne rfl (n51.ne rfl (n50.ne rfl (n49.ne rfl (n48.ne rfl (n47.ne rfl (n44.ne rfl (n43.ne rfl (n38.ne rfl s9I28)))))))))))))))
      exact th_n (hKI28 _ _ _ (by omega) ⟨j + 1, (addM M (mkD i j K) (mkD i j L)), ua, uc, rfl, n83.ok, G77, e84, e85, e86, (n83.ne rfl (n82.ne rfl n80.at_)), e87, e88, n83.at_, ho1, z79, by omega, mq_add hMI28 (by omega), by omega⟩)
    · refine wp_cond_false ((n38.at_).trans (congrArg Value.bool (decide_eq_false c40))) ?_
      refine wp_exit ?_
      refine th_x ?_
      refine th_x ?_
      refine ib_x ?_
      refine ib_n ?_
      refine th_n (hK22 _ _ ?_)
      refine wp_region_lit ?_
      refine sv n38.ok rfl (wn _ rfl) rfl (o_add (r := ((i + 1 : Nat) : Int)) (n38.ne rfl s9I28) ev_const (by omega) (by omega)) (fun an89 n89 => ?_)
      refine sv n89.ok rfl (wn _ rfl) rfl (o_mv n89.at_) (fun an90 n90 => ?_)
      refine wpList_nil ?_
      have e91 := n90.ne rfl (n89.ne rfl (n38.ne rfl s0I28))
      have e92 := n90.ne rfl (n89.ne rfl (n38.ne rfl s1I28))
      have e93 := n90.ne rfl (n89.ne rfl (n38.ne rfl s4I28))
      have e94 := n90.ne rfl (n89.ne rfl (n38.ne rfl s5I28))
      exact th_n (hKI12 _ _ _ (by omega) ⟨i + 1, M, ma, mc, rfl, n90.ok, GI28, e91, e92, e93, e94, n90.at_, omlI28, zbaseI28, by omega, mq_next hMI28 (by omega), by omega⟩)
  · refine wp_cond_false ((n19.at_).trans (congrArg Value.bool (decide_eq_false c21))) ?_
    refine wp_exit ?_
    refine th_x ?_
    refine th_x ?_
    refine ib_x ?_
    refine th_n (hK9 _ _ ?_)
    refine wp_seq_k (fun K95 hK95 => ?_)
    refine wp_region_lit ?_
    refine sv n19.ok rfl (wn _ rfl) rfl (o_mv (n19.ne rfl s5I12)) (fun an96 n96 => ?_)
    refine sc n96.ok rfl (wn _ rfl) rfl (o_f1 Try.func40 rfl rfl rfl n96.at_) (different_any M ma mc base (by omega) w w17 GI12 l2 zbaseI12 omlI12) ?_
    rintro _ w98 ⟨M2, u2, rfl, ho2, hM2, hM2l, g99⟩
    obtain ⟨da, dc, rfl, -⟩ := ow_form ho2
    refine ⟨_, rfl, fun an97 n97 => ?_⟩
    have G100 := Gr.grown GI12 g99 (fun k e => Nat.le_trans l2 (ow_lt omlI12 k e))
    have z101 := Nat.le_trans zbaseI12 g99.size
    refine sv n97.ok rfl (wn _ rfl) rfl (o_as n97.at_) (fun an102 n102 => ?_)
    refine wpList_nil ?_
    refine th_n (hK95 _ _ ?_)
    refine wp_ret ?_
    exact ret1 n102.ok rfl (n102.at_) ⟨M2, _, rfl, z1 ▸ ho2, fun m => by rw [hM2 m, hMI12 m, show i = 5 by omega], by omega, G100⟩
set_option maxHeartbeats 8000000 in
set_option maxRecDepth 100000 in
theorem within1_any (d1 d2 p1 p2 b : Nat) (h1 : d1 < 4294967296) (h2 : d2 < 4294967296) (h3 : p1 < 4294967296) (h4 : p2 < 4294967296) (w : World) (hb : Bk w b #[.int .u32 (p1 : Int), .int .u32 (p2 : Int)] 55) :
    Calls Try.prog 23 #[.agg #[.int .u32 (d1 : Int), .int .u32 (d2 : Int)], .pointer (some ⟨b, 0, none⟩)] w fun e w' => e = .returned (.bool (crossB (p1, p2) (d1, d2))) ∧ Gr w w' := by
  refine enter (N := 18) Try.func23 rfl rfl rfl (fun a0 ok0 h0 => ?_)
  have e0_0 : a0.eval (.tmp 0) = .agg #[.int .u32 (d1 : Int), .int .u32 (d2 : Int)] := h0 0 _ rfl
  have e0_1 : a0.eval (.tmp 1) = .pointer (some ⟨b, 0, none⟩) := h0 1 _ rfl
  clear h0
  have G0 := Gr.refl w
  refine wp_seq_k (fun K1 hK1 => ?_)
  refine wp_region_lit ?_
  refine sal (cs := #[.int .u32 (d1 : Int), .int .u32 (d2 : Int)]) ok0 rfl (wn _ rfl) rfl (o_box e0_0) (fun an2 w4 b3 W5 n2 => ?_)
  have l6 : b < b3 := by rw [W5.eq]; exact hb.lt
  have l7 : w.heap.size ≤ b3 := by rw [W5.eq]; exact G0.size
  have G8 := G0.trans W5.gr
  have B9 := hb.gr W5.gr
  refine sv n2.ok rfl (wn _ rfl) rfl (o_as ev_const) (fun an10 n10 => ?_)
  refine wpList_nil ?_
  refine th_n (hK1 _ _ ?_)
  refine wp_seq_k (fun K11 hK11 => ?_)
  refine wp_region_lit ?_
  refine sv n10.ok rfl (wn _ rfl) rfl (o_fa (z := 1) (n10.ne rfl (n2.ne rfl e0_1)) Try.underlying55 rfl (by kernel_rfl) rfl rfl) (fun an12 n12 => ?_)
  refine sv n12.ok rfl (wn _ rfl) rfl (o_ld n12.at_ (Try.isAgg53 _) (B9.cell _ rfl)) (fun an13 n13 => ?_)
  have e14 := n13.ne rfl (n12.ne rfl (n10.ne rfl n2.at_))
  refine sv n13.ok rfl (wn _ rfl) rfl (o_fa (z := 1) e14 Try.underlying55 rfl (by kernel_rfl) rfl rfl) (fun an15 n15 => ?_)
  refine sv n15.ok rfl (wn _ rfl) rfl (o_ld n15.at_ (Try.isAgg53 _) (W5.bk.cell _ rfl)) (fun an16 n16 => ?_)
  refine sv n16.ok rfl (wn _ rfl) rfl (o_and32 (n16.ne rfl (n15.ne rfl n13.at_)) n16.at_ (by omega) (by omega)) (fun an17 n17 => ?_)
  refine sv n17.ok rfl (wn _ rfl) rfl (o_neI n17.at_ ev_const) (fun an18 n18 => ?_)
  refine sv n18.ok rfl (wn _ rfl) rfl (o_mv n18.at_) (fun an19 n19 => ?_)
  by_cases c20 : ¬ ((p1 &&& d1 : Nat) : Int) = 0
  · have e21 := (n19.at_).trans (congrArg Value.bool (decide_eq_true c20))
    have e22 := ((n19.ne rfl n18.at_)).trans (congrArg Value.bool (decide_eq_true c20))
    have e23 := n19.ne rfl (n18.ne rfl (n17.ne rfl (n16.ne rfl (n15.ne rfl (n13.ne rfl (n12.ne rfl (n10.ne rfl (n2.ne rfl e0_1))))))))
    refine sv n19.ok rfl (wgT rfl (yl 6 true rfl e21) rfl) rfl (o_fa (z := 1) e23 Try.underlying55 rfl (by kernel_rfl) rfl rfl) (fun an24 n24 => ?_)
    refine sv n24.ok rfl (wgT rfl (yl 6 true rfl (n24.ne rfl e21)) rfl) rfl (o_ld n24.at_ (Try.isAgg53 _) (B9.cell _ rfl)) (fun an25 n25 => ?_)
    have e26 := n25.ne rfl (n24.ne rfl (n19.ne rfl (n18.ne rfl (n17.ne rfl (n16.ne rfl (n15.ne rfl e14))))))
    refine sv n25.ok rfl (wgT rfl (yl 6 true rfl (n25.ne rfl (n24.ne rfl e21))) rfl) rfl (o_fa (z := 1) e26 Try.underlying55 rfl (by kernel_rfl) rfl rfl) (fun an27 n27 => ?_)
    have e28 := n27.ne rfl (n25.ne rfl (n24.ne rfl e21))
    refine sv n27.ok rfl (wgT rfl (yl 6 true rfl e28) rfl) rfl (o_ld n27.at_ (Try.isAgg53 _) (W5.bk.cell _ rfl)) (fun an29 n29 => ?_)
    refine sv n29.ok rfl (wgT rfl (yl 6 true rfl (n29.ne rfl e28)) rfl) rfl (o_and32 (n29.ne rfl (n27.ne rfl n25.at_)) n29.at_ (by omega) (by omega)) (fun an30 n30 => ?_)
    refine sv n30.ok rfl (wgT rfl (yl 6 true rfl (n30.ne rfl (n29.ne rfl e28))) rfl) rfl (o_eqI n30.at_ ev_const) (fun an31 n31 => ?_)
    have e32 := n31.ne rfl (n30.ne rfl (n29.ne rfl e28))
    refine sv n31.ok rfl (wn _ rfl) rfl (o_pkT e32 n31.at_) (fun an33 n33 => ?_)
    refine sv n33.ok rfl (wn _ rfl) rfl (o_as n33.at_) (fun an34 n34 => ?_)
    refine wpList_nil ?_
    refine th_n (hK11 _ _ ?_)
    refine wp_ret ?_
    exact ret1 n34.ok rfl (n34.at_) ⟨congrArg (fun b => Ending.returned (Value.bool b)) (show _ = (decide (¬ (((p1 &&& d1 : Nat) : Int) = 0)) && decide (((p2 &&& d2 : Nat) : Int) = 0)) by rw [decide_eq_true c20, Bool.true_and]), G8⟩
  · have e35 := (n19.at_).trans (congrArg Value.bool (decide_eq_false c20))
    have e36 := ((n19.ne rfl n18.at_)).trans (congrArg Value.bool (decide_eq_false c20))
    refine sn n19.ok rfl (wgF rfl (yl 6 false rfl e35) rfl) rfl (fun an37 n37 => ?_)
    refine sn n37.ok rfl (wgF rfl (yl 6 false rfl (n37.ne rfl e35)) rfl) rfl (fun an38 n38 => ?_)
    refine sn n38.ok rfl (wgF rfl (yl 6 false rfl (n38.ne rfl (n37.ne rfl e35))) rfl) rfl (fun an39 n39 => ?_)
    have e40 := n39.ne rfl (n38.ne rfl (n37.ne rfl e35))
    refine sn n39.ok rfl (wgF rfl (yl 6 false rfl e40) rfl) rfl (fun an41 n41 => ?_)
    refine sn n41.ok rfl (wgF rfl (yl 6 false rfl (n41.ne rfl e40)) rfl) rfl (fun an42 n42 => ?_)
    refine sn n42.ok rfl (wgF rfl (yl 6 false rfl (n42.ne rfl (n41.ne rfl e40))) rfl) rfl (fun an43 n43 => ?_)
    have e44 := n43.ne rfl (n42.ne rfl (n41.ne rfl e40))
    refine sv n43.ok rfl (wn _ rfl) rfl (o_pkF e44 ev_const) (fun an45 n45 => ?_)
    refine sv n45.ok rfl (wn _ rfl) rfl (o_as n45.at_) (fun an46 n46 => ?_)
    refine wpList_nil ?_
    refine th_n (hK11 _ _ ?_)
    refine wp_ret ?_
    exact ret1 n46.ok rfl (n46.at_) ⟨congrArg (fun b => Ending.returned (Value.bool b)) (show _ = (decide (¬ (((p1 &&& d1 : Nat) : Int) = 0)) && decide (((p2 &&& d2 : Nat) : Int) = 0)) by rw [decide_eq_false c20, Bool.false_and]), G8⟩
set_option maxHeartbeats 8000000 in
set_option maxRecDepth 100000 in
theorem pwithin_ok (K L : List PtX) (va vb : Option Addr) (vc vd : Nat) (hl : K.length ≤ 30) (hl2 : L.length ≤ 30) (w : World) (hv : RdA encP 3 w va K) (hv2 : RdA encP 3 w vb L) (hm : MeansP w K) (hm2 : MeansP w L) :
    Calls Try.prog 5 #[.slice va K.length vc, .slice vb L.length vd] w fun e w' => ∃ b, e = .returned (.tuple #[.bool b, .int .i64 0]) ∧ (b = true ↔ subP K L) ∧ Gr w w' := by
  refine enter (N := 31) Try.func5 rfl rfl rfl (fun a0 ok0 h0 => ?_)
  have e0_0 : a0.eval (.tmp 0) = .slice va K.length vc := h0 0 _ rfl
  have e0_1 : a0.eval (.tmp 1) = .slice vb L.length vd := h0 1 _ rfl
  clear h0
  have G0 := Gr.refl w
  have hqP : ∀ t n, mkP t n K < 4294967296 := fun t n => mkL_lt _ _ hl
  have hqP2 : ∀ t n, mkP t n L < 4294967296 := fun t n => mkL_lt _ _ hl2
  have hqD : ∀ t n, mkD t n K < 4294967296 := fun t n => mkL_lt _ _ hl
  have hqD2 : ∀ t n, mkD t n L < 4294967296 := fun t n => mkL_lt _ _ hl2
  refine wp_seq_k (fun K1 hK1 => ?_)
  refine wp_region_lit ?_
  refine sv ok0 rfl (wn _ rfl) rfl (o_as ev_const) (fun an2 n2 => ?_)
  refine sv n2.ok rfl (wn _ rfl) rfl (o_as ev_const) (fun an3 n3 => ?_)
  refine wpList_nil ?_
  refine th_n (hK1 _ _ ?_)
  refine wp_seq_k (fun K4 hK4 => ?_)
  refine wp_seq_k (fun K5 hK5 => ?_)
  refine wp_region_lit ?_
  refine sv n3.ok rfl (wn _ rfl) rfl (o_mv (n3.ne rfl (n2.ne rfl e0_0))) (fun an6 n6 => ?_)
  have e7 := n6.ne rfl (n3.ne rfl (n2.ne rfl e0_1))
  refine sv n6.ok rfl (wn _ rfl) rfl (o_mv e7) (fun an8 n8 => ?_)
  refine sc n8.ok rfl (wn _ rfl) rfl (o_f2 Try.func19 rfl rfl rfl (n8.ne rfl n6.at_) n8.at_) (pcheckBoth_ok K L va vb vc vd w hl hl2 (hv.gr G0) (hv2.gr G0) (hm.gr G0) (hm2.gr G0)) ?_
  rintro _ w10 ⟨rfl, g11⟩
  refine ⟨_, rfl, fun an9 n9 => ?_⟩
  have G12 := G0.trans g11
  refine sv n9.ok rfl (wn _ rfl) rfl (o_as n9.at_) (fun an13 n13 => ?_)
  refine wpList_nil ?_
  refine th_n (hK5 _ _ ?_)
  refine wp_seq_k (fun K14 hK14 => ?_)
  refine wp_region_lit ?_
  refine sv n13.ok rfl (wn _ rfl) rfl (o_mv n13.at_) (fun an15 n15 => ?_)
  refine sv n15.ok rfl (wn _ rfl) rfl (o_neq (b := false) n15.at_ ev_const (by decide)) (fun an16 n16 => ?_)
  refine wpList_nil ?_
  refine th_n (hK14 _ _ ?_)
  refine wp_cond_false (n16.at_) ?_
  refine wp_skip ?_
  refine th_n (hK4 _ _ ?_)
  refine wp_seq_k (fun K17 hK17 => ?_)
  refine wp_region_lit ?_
  have e18 := n16.ne rfl (n15.ne rfl (n13.ne rfl (n9.ne rfl (n8.ne rfl (n6.ne rfl (n3.ne rfl (n2.ne rfl e0_0)))))))
  refine sv n16.ok rfl (wn _ rfl) rfl (o_mv e18) (fun an19 n19 => ?_)
  have e20 := n19.ne rfl (n16.ne rfl (n15.ne rfl (n13.ne rfl (n9.ne rfl (n8.ne rfl e7)))))
  refine sv n19.ok rfl (wn _ rfl) rfl (o_mv e20) (fun an21 n21 => ?_)
  refine sc n21.ok rfl (wn _ rfl) rfl (o_f2 Try.func20 rfl rfl rfl (n21.ne rfl n19.at_) n21.at_) (marksOfDots_any K L va vb vc vd hl hl2 w10 (hv.gr G12) (hv2.gr G12) (hm.gr G12) (hm2.gr G12)) ?_
  rintro _ w23 ⟨B, uB, rfl, hoB, hB, lB, g24⟩
  obtain ⟨ba, bc, rfl, -⟩ := ow_form hoB
  have rB := RdA.own encM_ok hoB rfl
  refine ⟨_, rfl, fun an22 n22 => ?_⟩
  have G25 := G12.trans g24
  have A27 := Gr.refl w23
  refine sv n22.ok rfl (wn _ rfl) rfl (o_as n22.at_) (fun an28 n28 => ?_)
  refine wpList_nil ?_
  refine th_n (hK17 _ _ ?_)
  refine wp_seq_k (fun K29 hK29 => ?_)
  refine wp_seq_k (fun K30 hK30 => ?_)
  refine wp_region_lit ?_
  have e31 := n28.ne rfl (n22.ne rfl (n21.ne rfl (n19.ne rfl e18)))
  refine sv n28.ok rfl (wn _ rfl) rfl (o_mv e31) (fun an32 n32 => ?_)
  have e33 := n32.ne rfl (n28.ne rfl (n22.ne rfl (n21.ne rfl e20)))
  refine sv n32.ok rfl (wn _ rfl) rfl (o_mv e33) (fun an34 n34 => ?_)
  refine sc n34.ok rfl (wn _ rfl) rfl (o_f2 Try.func21 rfl rfl rfl (n34.ne rfl n32.at_) n34.at_) (marksOfPoints_any K L va vb vc vd hl hl2 w23 (hv.gr G25) (hv2.gr G25) (hm.gr G25) (hm2.gr G25)) ?_
  rintro _ w36 ⟨A, uA, rfl, hoA, hA, lA, g37⟩
  obtain ⟨aa, ac, rfl, -⟩ := ow_form hoA
  have rA := RdA.own encM_ok hoA rfl
  refine ⟨_, rfl, fun an35 n35 => ?_⟩
  have G38 := G25.trans g37
  have A39 := A27.trans g37
  have A41 := Gr.refl w36
  refine sv n35.ok rfl (wn _ rfl) rfl (o_len n35.at_ Try.underlying51) (fun an42 n42 => ?_)
  refine sv n42.ok rfl (wn _ rfl) rfl (o_mv ev_const) (fun an43 n43 => ?_)
  refine wpList_nil ?_
  refine th_n (hK30 _ _ ?_)
  refine wp_block ?_
  have e45 := n43.ne rfl (n42.ne rfl (n35.ne rfl (n34.ne rfl (n32.ne rfl (n28.ne rfl (n22.ne rfl (n21.ne rfl (n19.ne rfl (n16.ne rfl (n15.ne rfl (n13.ne rfl (n9.ne rfl (n8.ne rfl (n6.ne rfl (n3.ne rfl n2.at_)))))))))))))))
  have e46 := n43.ne rfl (n42.ne rfl (n35.ne rfl (n34.ne rfl (n32.ne rfl (n28.ne rfl (n22.ne rfl (n21.ne rfl (n19.ne rfl (n16.ne rfl (n15.ne rfl (n13.ne rfl (n9.ne rfl (n8.ne rfl (n6.ne rfl n3.at_))))))))))))))
  have e47 := n43.ne rfl (n42.ne rfl (n35.ne rfl (n34.ne rfl (n32.ne rfl n28.at_))))
  refine lp (fun (nL : Nat) (aL : Act) (wL : World) => ∃ i : Nat, nL = A.length - i ∧ Ok 31 aL ∧ Gr w wL ∧ (aL.eval (.tmp 4) = .bool false) ∧ (aL.eval (.tmp 5) = .int .i64 0) ∧ (aL.eval (.tmp 7) = .slice ba B.length bc) ∧ (aL.eval (.tmp 21) = .slice aa A.length ac) ∧ (aL.eval (.tmp 22) = .int .i64 ((A.length : Nat) : Int)) ∧ (aL.eval (.tmp 23) = .int .i64 (i : Int)) ∧ (Gr w23 wL) ∧ (Gr w36 wL) ∧ (i ≤ A.length) ∧ (∀ k y, k < i → A[k]? = some y → (B.any fun d => crossB y d) = false)) _ ⟨0, rfl, n43.ok, G38, e45, e46, e47, (n43.ne rfl (n42.ne rfl n35.at_)), (n43.ne rfl n42.at_), n43.at_, A39, A41, by omega, fun k y hk => by omega⟩ ?_
  rintro m48 aI44 w50 ⟨i, hmI44, okI44, GI44, s4I44, s5I44, s7I44, s21I44, s22I44, s23I44, xanch26I44, xanch40I44, hiI44, hnoI44⟩ KI44 hKI44
  refine wp_seq_k (fun K51 hK51 => ?_)
  refine wp_region_lit ?_
  refine sv okI44 rfl (wn _ rfl) rfl (o_ltI s23I44 s22I44) (fun an52 n52 => ?_)
  refine wpList_nil ?_
  refine th_n (hK51 _ _ ?_)
  refine wp_seq_k (fun K53 hK53 => ?_)
  by_cases c54 : (i : Int) < ((A.length : Nat) : Int)
  · refine wp_cond_true ((n52.at_).trans (congrArg Value.bool (decide_eq_true c54))) ?_
    refine wp_skip ?_
    refine th_n (hK53 _ _ ?_)
    refine wp_seq_k (fun K55 hK55 => ?_)
    refine wp_block ?_
    refine wp_seq_k (fun K56 hK56 => ?_)
    refine wp_region_lit ?_
    have h57l : i < List.length A := by omega
    obtain ⟨bh57, fh57, h57a, h57b, h57c⟩ := (rA.gr xanch40I44) (ne_nil_of_lt h57l)
    obtain ⟨xh57, h57x⟩ : ∃ x, (A)[i]? = some x := ⟨_, List.getElem?_eq_getElem h57l⟩
    refine sv n52.ok rfl (wn _ rfl) rfl (o_iaV (i := i) (s := 2) h57a (n52.ne rfl s21I44) (n52.ne rfl s23I44) Try.underlying51 (by kernel_rfl) h57l) (fun an58 n58 => ?_)
    refine sv n58.ok rfl (wn _ rfl) rfl (o_ldA (k := fh57 + i * 2) n58.at_ (cs := [.int .u32 ((xh57.1 : Nat) : Int), .int .u32 ((xh57.2 : Nat) : Int)]) (fun j v hv => (Below.cell (Gr.refl _) h57b).trans (h57c _ _ h57x j v hv)) Try.underlying55 rfl (by kernel_rfl)) (fun an59 n59 => ?_)
    refine sal (cs := #[.int .u32 0, .int .u32 0]) n59.ok rfl (wn _ rfl) rfl (o_al (z := .agg #[.int .u32 0, .int .u32 0]) (by kernel_rfl)) (fun an60 w62 b61 W63 n60 => ?_)
    have l64 : w.heap.size ≤ b61 := by rw [W63.eq]; exact GI44.size
    have l65 : w23.heap.size ≤ b61 := by rw [W63.eq]; exact xanch26I44.size
    have l66 : w36.heap.size ≤ b61 := by rw [W63.eq]; exact xanch40I44.size
    have G67 := GI44.trans W63.gr
    have A68 := xanch26I44.trans W63.gr
    have A69 := xanch40I44.trans W63.gr
    refine ssR rfl (wn _ rfl) (o_stR n60.at_ (n60.ne rfl n59.at_) W63.bk (by kernel_rfl) rfl (by simp [Value.oneCell'])) W63.bk (fun w70 u71 u71b => ?_)
    have G72 : Gr w w70 := Below.upd G67 l64 u71
    have A73 : Gr w23 w70 := Below.upd A68 l65 u71
    have A74 : Gr w36 w70 := Below.upd A69 l66 u71
    refine wpList_nil ?_
    refine th_n (hK56 _ _ ?_)
    refine wp_seq_k (fun K75 hK75 => ?_)
    refine wp_region_lit ?_
    have e76 := n60.ne rfl (n59.ne rfl (n58.ne rfl (n52.ne rfl s7I44)))
    refine sv n60.ok rfl (wn _ rfl) rfl (o_mv e76) (fun an77 n77 => ?_)
    refine sv n77.ok rfl (wn _ rfl) rfl (o_mf (fs := []) (cs := [.pointer (some ⟨b61, 0, none⟩)]) (by simp) (by simp [(n77.ne rfl n60.at_)])) (fun an78 n78 => ?_)
    refine sc n78.ok rfl (wn _ rfl) rfl (o_f2 Try.func22 rfl rfl rfl (n78.ne rfl n77.at_) n78.at_) (containsM B ba bc _ [.pointer (some ⟨b61, 0, none⟩)] (fun d => crossB xh57 d) ⟨_, Try.func23, rfl, rfl⟩ (by omega) w70 ((rB.gr A73)) (fun d hd w1 g1 => within1_any d.1 d.2 xh57.1 xh57.2 b61 (mq_lt ((hB d).1 hd) hqD hqD2).1 (mq_lt ((hB d).1 hd) hqD hqD2).2 (mq_lt ((hA _).1 (List.mem_of_getElem? h57x)) hqP hqP2).1 (mq_lt ((hA _).1 (List.mem_of_getElem? h57x)) hqP hqP2).2 w1 (u71b.gr g1))) ?_
    rintro _ w80 ⟨rfl, g81⟩
    refine ⟨_, rfl, fun an79 n79 => ?_⟩
    have G82 := G72.trans g81
    have B83 := u71b.gr g81
    have A84 := A73.trans g81
    have A85 := A74.trans g81
    refine wpList_nil ?_
    refine th_n (hK75 _ _ ?_)
    cases c86 : (B.any fun d => crossB xh57 d)
    · refine wp_cond_false ((n79.at_).trans (congrArg Value.bool (c86))) ?_
      refine wp_skip ?_
      refine ib_n ?_
      refine th_n (hK55 _ _ ?_)
      refine wp_region_lit ?_
      have e87 := n79.ne rfl (n78.ne rfl (n77.ne rfl (n60.ne rfl (n59.ne rfl (n58.ne rfl (n52.ne rfl s23I44))))))
      refine sv n79.ok rfl (wn _ rfl) rfl (o_add (r := ((i + 1 : Nat) : Int)) e87 ev_const (by omega) (by omega)) (fun an88 n88 => ?_)
      refine sv n88.ok rfl (wn _ rfl) rfl (o_mv n88.at_) (fun an89 n89 => ?_)
      refine wpList_nil ?_
      have e90 := n89.ne rfl (n88.ne rfl (n79.ne rfl (n78.ne rfl (n77.ne rfl (n60.ne rfl (n59.ne rfl (n58.ne rfl (n52.ne rfl s4I44))))))))
      have e91 := n89.ne rfl (n88.ne rfl (n79.ne rfl (n78.ne rfl (n77.ne rfl (n60.ne rfl (n59.ne rfl (n58.ne rfl (n52.ne rfl s5I44))))))))
      have e92 := n89.ne rfl (n88.ne rfl (n79.ne rfl (n78.ne rfl (n77.ne rfl e76))))
      have e93 := n89.ne rfl (n88.ne rfl (n79.ne rfl (n78.ne rfl (n77.ne rfl (n60.ne rfl (n59.ne rfl (n58.ne rfl (n52.ne rfl s21I44))))))))
      have e94 := n89.ne rfl (n88.ne rfl (n79.ne rfl (n78.ne rfl (n77.ne rfl (n60.ne rfl (n59.ne rfl (n58.ne rfl (n52.ne rfl s22I44))))))))
      exact th_n (hKI44 _ _ _ (by omega) ⟨i + 1, rfl, n89.ok, G82, e90, e91, e92, e93, e94, n89.at_, A84, A85, by omega, fun k y hk hy => by
          rcases Nat.lt_or_ge k i with q | q
          · exact hnoI44 k y q hy
          · obtain rfl : k = i := by omega
            rw [h57x] at hy
            cases hy
            exact c86⟩)
    · refine wp_cond_true ((n79.at_).trans (congrArg Value.bool (c86))) ?_
      refine wp_seq_k (fun K95 hK95 => ?_)
      refine wp_region_lit ?_
      refine sv n79.ok rfl (wn _ rfl) rfl (o_as ev_const) (fun an96 n96 => ?_)
      refine sv n96.ok rfl (wn _ rfl) rfl (o_as ev_const) (fun an97 n97 => ?_)
      refine wpList_nil ?_
      refine th_n (hK95 _ _ ?_)
      refine wp_ret ?_
      refine ib_r ?_
      refine th_r ?_
      refine th_r ?_
      refine ib_r ?_
      refine th_r ?_
      exact ret2 n97.ok rfl ((n97.ne rfl n96.at_)) (n97.at_) ⟨false, rfl, ⟨fun q => (by cases q), fun q => by have q2 := (within_marks hA hB).2 q; rw [List.any_eq_false] at q2; exact absurd c86 (by have := q2 _ (List.mem_of_getElem? h57x); simpa using this)⟩, G82⟩
  · refine wp_cond_false ((n52.at_).trans (congrArg Value.bool (decide_eq_false c54))) ?_
    refine wp_exit ?_
    refine th_x ?_
    refine th_x ?_
    refine ib_x ?_
    refine th_n (hK29 _ _ ?_)
    refine wp_seq_k (fun K98 hK98 => ?_)
    refine wp_region_lit ?_
    refine sv n52.ok rfl (wn _ rfl) rfl (o_as ev_const) (fun an99 n99 => ?_)
    refine sv n99.ok rfl (wn _ rfl) rfl (o_as ev_const) (fun an100 n100 => ?_)
    refine wpList_nil ?_
    refine th_n (hK98 _ _ ?_)
    refine wp_ret ?_
    exact ret2 n100.ok rfl ((n100.ne rfl n99.at_)) (n100.at_) ⟨true, rfl, ⟨fun _ => (within_marks hA hB).1 (by rw [List.any_eq_false]; intro y hy; obtain ⟨k, hk⟩ := List.getElem?_of_mem hy; have hlt := (List.getElem?_eq_some_iff.1 hk).1; rw [hnoI44 k y (by omega) hk]; simp), fun _ => rfl⟩, GI44⟩
set_option maxHeartbeats 8000000 in
set_option maxRecDepth 100000 in
theorem pwithin_bad (K L : List PtI) (va vb : Option Addr) (vc vd : Nat) (hl : K.length ≤ 9223372036854775807) (hl2 : L.length ≤ 9223372036854775807) (hne : ¬ chkP2 K L = 0) (w : World) (hv : RdA encR 3 w va K) (hv2 : RdA encR 3 w vb L) (hm : MeansI w K) (hm2 : MeansI w L) :
    Calls Try.prog 5 #[.slice va K.length vc, .slice vb L.length vd] w fun e w' => e = .returned (.tuple #[.bool false, .int .i64 (chkP2 K L)]) ∧ Gr w w' := by
  refine enter (N := 31) Try.func5 rfl rfl rfl (fun a0 ok0 h0 => ?_)
  have e0_0 : a0.eval (.tmp 0) = .slice va K.length vc := h0 0 _ rfl
  have e0_1 : a0.eval (.tmp 1) = .slice vb L.length vd := h0 1 _ rfl
  clear h0
  have G0 := Gr.refl w
  refine wp_seq_k (fun K1 hK1 => ?_)
  refine wp_region_lit ?_
  refine sv ok0 rfl (wn _ rfl) rfl (o_as ev_const) (fun an2 n2 => ?_)
  refine sv n2.ok rfl (wn _ rfl) rfl (o_as ev_const) (fun an3 n3 => ?_)
  refine wpList_nil ?_
  refine th_n (hK1 _ _ ?_)
  refine wp_seq_k (fun K4 hK4 => ?_)
  refine wp_seq_k (fun K5 hK5 => ?_)
  refine wp_region_lit ?_
  refine sv n3.ok rfl (wn _ rfl) rfl (o_mv (n3.ne rfl (n2.ne rfl e0_0))) (fun an6 n6 => ?_)
  have e7 := n6.ne rfl (n3.ne rfl (n2.ne rfl e0_1))
  refine sv n6.ok rfl (wn _ rfl) rfl (o_mv e7) (fun an8 n8 => ?_)
  refine sc n8.ok rfl (wn _ rfl) rfl (o_f2 Try.func19 rfl rfl rfl (n8.ne rfl n6.at_) n8.at_) (pcheckBoth_any K L va vb vc vd w hl hl2 (hv.gr G0) (hv2.gr G0) (hm.gr G0) (hm2.gr G0)) ?_
  rintro _ w10 ⟨rfl, g11⟩
  refine ⟨_, rfl, fun an9 n9 => ?_⟩
  have G12 := G0.trans g11
  refine sv n9.ok rfl (wn _ rfl) rfl (o_as n9.at_) (fun an13 n13 => ?_)
  refine wpList_nil ?_
  refine th_n (hK5 _ _ ?_)
  refine wp_seq_k (fun K14 hK14 => ?_)
  refine wp_region_lit ?_
  refine sv n13.ok rfl (wn _ rfl) rfl (o_mv n13.at_) (fun an15 n15 => ?_)
  refine sv n15.ok rfl (wn _ rfl) rfl (o_neq (b := true) n15.at_ ev_const (by simp [show ¬ (chkP2 K L) = 0 from hne])) (fun an16 n16 => ?_)
  refine wpList_nil ?_
  refine th_n (hK14 _ _ ?_)
  refine wp_cond_true (n16.at_) ?_
  refine wp_seq_k (fun K17 hK17 => ?_)
  refine wp_region_lit ?_
  refine sv n16.ok rfl (wn _ rfl) rfl (o_mv (n16.ne rfl (n15.ne rfl n13.at_))) (fun an18 n18 => ?_)
  refine sv n18.ok rfl (wn _ rfl) rfl (o_as ev_const) (fun an19 n19 => ?_)
  refine sv n19.ok rfl (wn _ rfl) rfl (o_as (n19.ne rfl n18.at_)) (fun an20 n20 => ?_)
  refine wpList_nil ?_
  refine th_n (hK17 _ _ ?_)
  refine wp_ret ?_
  refine th_r ?_
  exact ret2 n20.ok rfl ((n20.ne rfl n19.at_)) (n20.at_) ⟨rfl, G12⟩
end Go.Proofs.Ythcehgmpajejeaa

/- the document's parts and the package's: Knows, PartsWithin in terms of what a list of parts holds. By hand. -/
set_option linter.unusedVariables false
set_option linter.unusedSimpArgs false
namespace Rm
open Go Go.RowKit Gx
theorem d_s (x : PtX) (a b : Nat) (hb : b < 32) : x.d.s (32 * a + b) = (x.T a).testBit b := by
  show ptF x.T (32 * a + b) = _
  unfold ptF
  rw [show (32 * a + b) / 32 = a by omega, show (32 * a + b) % 32 = b by omega]
theorem d_X (x : PtX) (s c : Nat) (hc : c < 1024) : dsX x.d.X s c = memB (formV x.D) (formM x.D) s c := xOf_ds _ s c hc
theorem d_in (x : PtX) (s c : Nat) (i : inR s c) : dsX x.d.X s c = x.D s c := by
  rw [d_X x s c (by have := i.2.2; omega)]
  exact form_mem x.D s c i
theorem d_out (x : PtX) (s c : Nat) (hc : c < 1024) (h : dsX x.d.X s c = true) : inR s c := by
  rw [d_X x s c hc] at h
  exact (form_ok x.D).inR h
/-- Knows at what the document holds -/
theorem knM_has (L : List PtX) (a b s c : Nat) (hb : b < 32) (i : inR s c) : knM (L.map PtX.d) (32 * a + b) s c = hasP L a b s c := by
  unfold knM hasP
  rw [List.any_map]
  congr 1
  funext x
  show (x.d.s (32 * a + b) && dsX x.d.X s c) = _
  rw [d_s x a b hb, d_in x s c i]
theorem knM_out (L : List PtX) (p s c : Nat) (hc : c < 1024) (h : knM (L.map PtX.d) p s c = true) : inR s c := by
  unfold knM at h
  rw [List.any_map, List.any_eq_true] at h
  obtain ⟨x, _, h⟩ := h
  have h' : (x.d.s p && dsX x.d.X s c) = true := h
  rw [Bool.and_eq_true] at h'
  exact d_out x s c hc h'.2
theorem dsX_orB (X Y : Nat → Nat) (s c : Nat) : dsX (fun q => X q ||| Y q) s c = (dsX X s c || dsX Y s c) := by
  unfold dsX
  exact Nat.testBit_or _ _ _
theorem dsX_andB (X Y : Nat → Nat) (s c : Nat) : dsX (fun q => X q &&& Y q) s c = (dsX X s c && dsX Y s c) := by
  unfold dsX
  exact Nat.testBit_and _ _ _
theorem jn_ds (p s c : Nat) : ∀ (K : List PtM) (Y : Nat → Nat), dsX (K.foldl (fun Y x => if x.s p = true then (fun q => Y q ||| x.X q) else Y) Y) s c = (dsX Y s c || knM K p s c) := by
  intro K
  induction K with
  | nil => intro Y; simp [knM]
  | cons a K ih =>
    intro Y
    rw [List.foldl_cons, ih]
    have e : knM (a :: K) p s c = ((a.s p && dsX a.X s c) || knM K p s c) := rfl
    rw [e]
    by_cases h : a.s p = true
    · rw [if_pos h, dsX_orB, h, Bool.true_and, Bool.or_assoc]
    · have h' : a.s p = false := by simpa using h
      rw [if_neg h, h', Bool.false_and, Bool.false_or]
theorem jn_kn (K : List PtM) (p s c : Nat) : dsX (jn K p) s c = knM K p s c := by
  unfold jn
  rw [jn_ds]
  have e : dsX (fun _ => 0) s c = false := by unfold dsX; exact Nat.zero_testBit _
  rw [e, Bool.false_or]
theorem eqX_ds {X Y : Nat → Nat} (hX : OkX X) (hY : OkX Y) : eqX X Y = true ↔ ∀ s c, s < 5 → c < 1024 → dsX X s c = dsX Y s c := by
  rw [eqX_iff]
  constructor
  · intro h s c hs hc
    unfold dsX
    rw [h s hs (c / 64) (by omega)]
  · intro h s hs k hk
    refine Nat.eq_of_testBit_eq fun j => ?_
    by_cases hj : j < 64
    · have := h s (64 * k + j) hs (by omega)
      unfold dsX at this
      rw [show (64 * k + j) / 64 = k by omega, show (64 * k + j) % 64 = j by omega] at this
      exact this
    · have l : ∀ Z : Nat → Nat, OkX Z → (Z (s * 16 + k)).testBit j = false := fun Z hZ => Nat.testBit_lt_two_pow (Nat.lt_of_lt_of_le (hZ _) (Nat.pow_le_pow_right (by omega) (by omega)))
      rw [l X hX, l Y hY]
theorem pwAt_iff {K L : List PtM} (hK : ∀ x ∈ K, OkX x.X) (hL : ∀ x ∈ L, OkX x.X) (p : Nat) : pwAt K L p = true ↔ ∀ s c, s < 5 → c < 1024 → knM K p s c = true → knM L p s c = true := by
  unfold pwAt
  rw [eqX_ds (fun q => Nat.lt_of_le_of_lt Nat.and_le_left (jn_ok hK p q)) (jn_ok hK p)]
  constructor
  · intro h s c hs hc k
    have := h s c hs hc
    rw [dsX_andB, jn_kn, jn_kn, k] at this
    simpa using this
  · intro h s c hs hc
    rw [dsX_andB, jn_kn, jn_kn]
    cases k : knM K p s c
    · rfl
    · rw [h s c hs hc k]; rfl
theorem d_okX (L : List PtX) : ∀ x ∈ L.map PtX.d, OkX x.X := fun x hx => by
  obtain ⟨y, _, rfl⟩ := List.mem_map.1 hx
  exact y.d_ok
/-- PartsWithin at what the document holds -/
theorem pwB_sub (K L : List PtX) : pwB (K.map PtX.d) (L.map PtX.d) = true ↔ subP K L := by
  unfold pwB
  rw [List.all_eq_true]
  constructor
  · intro h t n a c ht hn i k
    have h1 := (pwAt_iff (d_okX K) (d_okX L) (32 * t + n)).1 (h _ (List.mem_range.2 (by omega))) a c i.1 (by have := i.2.2; omega)
    rw [knM_has _ _ _ _ _ hn i, knM_has _ _ _ _ _ hn i] at h1
    exact h1 k
  · intro h p hp
    have hp' := List.mem_range.1 hp
    refine (pwAt_iff (d_okX K) (d_okX L) p).2 fun s c hs hc k => ?_
    have i := knM_out K p s c hc k
    have e : p = 32 * (p / 32) + p % 32 := by omega
    rw [e, knM_has _ _ _ _ _ (by omega) i] at k ⊢
    exact h _ _ _ _ (by omega) (by omega) i k
end Rm

/- What a part owns; narrow. -/
set_option linter.unusedVariables false
set_option linter.unusedSimpArgs false
namespace Go.Proofs.Ythcehgmpajejeaa
open Go.RowKit Rm Gx
/-- the types that a part's memory is of -/
def ptT : List TypeId := [83, 108, 3, 26]
/-- blocks of these types stand -/
def Tk (w w' : World) : Prop := ∀ (k : Nat) (cs : Array Value) (t : TypeId) (fr : Nat × Nat), w.heap[k]? = some (.cells cs t fr) → ptT.contains t = true → w'.heap[k]? = w.heap[k]?
theorem ow_tk {w w' : World} {base s n : Nat} {t : TypeId} {v : Value} {xs : List Value} (h : w.ownsRow base t s v n xs) (k : Tk w w') (ht : ptT.contains t = true) : w'.ownsRow base t s v n xs := by
  obtain ⟨h1, h2 | ⟨b, cap, cur, rfl, h3, hg, h4⟩⟩ := h
  · exact ⟨h1, .inl h2⟩
  · exact ⟨h1, .inr ⟨b, cap, cur, rfl, h3, (k b cur t (0, 0) hg ht).trans hg, h4⟩⟩
theorem FO.tk {base n : Nat} {w w' : World} {v : Value} {T : Nat → Nat} (h : FO base n w v T) (k : Tk w w') : FO base n w' v T := by
  obtain ⟨O, h1, h2, h3⟩ := h
  exact ⟨O, ow_tk h1 k (by decide), fun p hp => ow_tk (h2 p hp) k (by decide), h3⟩
theorem KnO.tk {base : Nat} {w w' : World} {k : Value} {v : List Nat} {m : List (Nat × Nat)} (h : KnO base w k v m) (q : Tk w w') : KnO base w' k v m := by
  obtain ⟨vv, mv, e, h1, h2⟩ := h
  exact ⟨vv, mv, e, ow_tk h1 q (by decide), ow_tk h2 q (by decide)⟩
theorem FO.form {base n : Nat} {w : World} {v : Value} {T : Nat → Nat} (h : FO base n w v T) : ∃ a l c, v = .slice a l c := by
  obtain ⟨O, h1, -⟩ := h
  obtain ⟨a, c, rfl, -⟩ := ow_form h1
  exact ⟨a, _, c, rfl⟩
/-- a part that owns what it holds -/
structure OwnP (base : Nat) (w : World) (x : PtX) : Prop where
  fo : FO base 16 w x.f x.T
  kn : KnO base w x.k (formV x.D) (formM x.D)
  few : (formM x.D).length ≤ 60
theorem OwnP.tk {base : Nat} {w w' : World} {x : PtX} (h : OwnP base w x) (k : Tk w w') : OwnP base w' x := ⟨h.fo.tk k, h.kn.tk k, h.few⟩
theorem OwnP.base {base base' : Nat} {w : World} {x : PtX} (h : OwnP base w x) (hb : base' ≤ base) : OwnP base' w x := ⟨h.fo.base hb, h.kn.less hb, h.few⟩
def OwnsP (base : Nat) (w : World) (K : List PtX) : Prop := ∀ x ∈ K, OwnP base w x
theorem OwnsP.tk {base : Nat} {w w' : World} {K : List PtX} (h : OwnsP base w K) (k : Tk w w') : OwnsP base w' K := fun x hx => (h x hx).tk k
theorem OwnsP.snoc {base : Nat} {w : World} {K : List PtX} {x : PtX} (h : OwnsP base w K) (hx : OwnP base w x) : OwnsP base w (K ++ [x]) := fun y hy => by
  rcases List.mem_append.1 hy with hy | hy
  · exact h y hy
  · rw [List.mem_singleton.1 hy]; exact hx
def _root_.Rm.PtX.m (x : PtX) : (Nat → Nat) × DS := (x.T, x.D)
end Go.Proofs.Ythcehgmpajejeaa

/- reedkeep.parts, partBegun, both; small lists of parts. -/
set_option linter.unusedVariables false
set_option linter.unusedSimpArgs false
namespace Gx
open Go Go.RowKit Rm
/-- a slice of values, each read in its way -/
def RdV {α : Type} (R : World → Value → α → Prop) (w : World) (a : Option Addr) (L : List α) : Prop :=
  L ≠ [] → ∃ b off, a = some ⟨b, off, none⟩ ∧ b < w.heap.size ∧ ∀ i x, L[i]? = some x → ∃ u, w.cell? ⟨b, off + i * 1, none⟩ = some u ∧ R w u x
theorem RdV.gr {α : Type} {R : World → Value → α → Prop} (hR : ∀ w w' u x, Gr w w' → R w u x → R w' u x) {w w' : World} {a : Option Addr} {L : List α} (h : RdV R w a L) (g : Gr w w') : RdV R w' a L := fun hn => by
  obtain ⟨b, off, e, hb, hx⟩ := h hn
  refine ⟨b, off, e, Nat.lt_of_lt_of_le hb g.le, fun i x hi => ?_⟩
  obtain ⟨u, h1, h2⟩ := hx i x hi
  exact ⟨u, (g.cells.1 b _ hb).trans h1, hR _ _ _ _ g h2⟩
end Gx
namespace Rm
open Go Go.RowKit Gx
/-- two lists say the same -/
def EqP (K L : List PtX) : Prop := ∀ t n a c, t < 16 → n < 32 → inR a c → hasP K t n a c = hasP L t n a c
theorem EqP.sub {K L : List PtX} (h : EqP K L) : subP K L := fun t n a c h1 h2 h3 hk => by rw [← h t n a c h1 h2 h3]; exact hk
theorem EqP.symm {K L : List PtX} (h : EqP K L) : EqP L K := fun t n a c h1 h2 h3 => (h t n a c h1 h2 h3).symm
theorem EqP.trans {K L M : List PtX} (h : EqP K L) (k : EqP L M) : EqP K M := fun t n a c h1 h2 h3 => (h t n a c h1 h2 h3).trans (k t n a c h1 h2 h3)
theorem EqP.refl (K : List PtX) : EqP K K := fun _ _ _ _ _ _ _ => rfl
end Rm
namespace Go.Proofs.Ythcehgmpajejeaa
open Go.RowKit Rm Gx
/-- a part whose filter was there at first and whose dots are owned -/
structure PartAt (w0 w : World) (x : PtX) : Prop where
  fs : FS w0 x.f x.T
  kn : KnO w0.heap.size w x.k (formV x.D) (formM x.D)
  few : (formM x.D).length ≤ 60
def PartsAt (w0 w : World) (K : List PtX) : Prop := ∀ x ∈ K, PartAt w0 w x
theorem PartAt.tk {w0 w w' : World} {x : PtX} (h : PartAt w0 w x) (k : Tk w w') : PartAt w0 w' x := ⟨h.fs, h.kn.tk k, h.few⟩
theorem PartsAt.tk {w0 w w' : World} {K : List PtX} (h : PartsAt w0 w K) (k : Tk w w') : PartsAt w0 w' K := fun x hx => (h x hx).tk k
theorem PartsAt.snoc {w0 w : World} {K : List PtX} {x : PtX} (h : PartsAt w0 w K) (hx : PartAt w0 w x) : PartsAt w0 w (K ++ [x]) := fun y hy => by
  rcases List.mem_append.1 hy with hy | hy
  · exact h y hy
  · rw [List.mem_singleton.1 hy]; exact hx
theorem ok0 : OkV [] [] := ⟨by simp, by simp, by simp, by simp, by simp⟩
theorem FSn.form {n : Nat} {w : World} {v : Value} {T : Nat → Nat} (h : FSn n w v T) : ∃ a l c, v = .slice a l c := by
  obtain ⟨F, ⟨a, c, rfl, -⟩, -⟩ := h
  exact ⟨a, _, c, rfl⟩
end Go.Proofs.Ythcehgmpajejeaa

/- What the laws on parts need. -/
set_option linter.unusedVariables false
set_option linter.unusedSimpArgs false
namespace Rm
open Go Go.RowKit Gx
def hasV (K : List PtX) (t n a c : Int) : Bool := pointB t n && dotB (a, c) && K.any fun x => bitT x.T t n && hasD x.D a c
theorem hasV_in {K : List PtX} {t n a c : Nat} (ht : t < 16) (hn : n < 32) (hi : inR a c) : hasV K (t : Int) (n : Int) (a : Int) (c : Int) = hasP K t n a c := by
  unfold hasV hasP
  have hd : dotB ((a : Int), (c : Int)) = true := (dotB_iff _).2 ⟨by simp, by have := hi.1; simp only; omega, by have := hi.2.1; simp only; omega, by have := hi.2.2; simp only; omega⟩
  rw [pointB_nat ht hn, hd, Bool.true_and, Bool.true_and]
  congr 1
  funext x
  have h1 : bitT x.T (t : Int) (n : Int) = (x.T t).testBit n := by unfold bitT; rw [pointB_nat ht hn]; simp
  have h2 : hasD x.D (a : Int) (c : Int) = x.D a c := by unfold hasD; rw [hd]; simp
  rw [h1, h2]
theorem hasV_out {K : List PtX} {t n a c : Int} (h : (pointB t n && dotB (a, c)) = false) : hasV K t n a c = false := by
  unfold hasV; rw [h, Bool.false_and]
theorem inR_of {a c : Int} (h : dotB (a, c) = true) : ∃ x y : Nat, a = x ∧ c = y ∧ inR x y := by
  obtain ⟨h1, h2, h3, h4⟩ := (dotB_iff _).1 h
  simp only at h1 h2 h3 h4
  exact ⟨a.toNat, c.toNat, by omega, by omega, by omega, by omega, by omega⟩
end Rm
namespace Go.Proofs.Ythcehgmpajejeaa
open Go.RowKit Rm Gx
theorem phas (K : List PtX) (va : Option Addr) (vc : Nat) (t n a c : Int) (w : World) (hl : K.length ≤ 30) (hv : RdA encP 3 w va K) (hm : MeansP w K) :
    Calls Try.prog 4 #[.slice va K.length vc, .agg #[.int .i64 t, .int .i64 n], .agg #[.int .i64 a, .int .i64 c]] w fun e w' => e = .returned (.tuple #[.bool (hasV K t n a c), .int .i64 (hasE t n a c)]) ∧ Gr w w' :=
  phas_ok K va vc t n a c w hl hv hm
theorem pwithin_b (K L : List PtX) (va vb : Option Addr) (vc vd : Nat) (b : Bool) (hb : b = true ↔ subP K L) (hl : K.length ≤ 30) (hl2 : L.length ≤ 30) (w : World) (hv : RdA encP 3 w va K) (hv2 : RdA encP 3 w vb L) (hm : MeansP w K) (hm2 : MeansP w L) :
    Calls Try.prog 5 #[.slice va K.length vc, .slice vb L.length vd] w fun e w' => e = .returned (.tuple #[.bool b, .int .i64 0]) ∧ Gr w w' := by
  refine (pwithin_ok K L va vb vc vd hl hl2 w hv hv2 hm hm2).mono ?_
  rintro e w' ⟨r, rfl, h, g⟩
  have : r = b := by rw [Bool.eq_iff_iff, h, hb]
  rw [this]
  exact ⟨rfl, g⟩
end Go.Proofs.Ythcehgmpajejeaa

/- What the law PartSays wants beside the contracts. -/
set_option linter.unusedVariables false
set_option linter.unusedSimpArgs false
namespace Go.Proofs.Ythcehgmpajejeaa
open Go.RowKit Rm Gx
theorem chkP2_l {K L : List PtI} (h : ¬ chkP K = 0) : chkP2 K L = chkP K := by unfold chkP2; rw [if_neg h]
theorem chkP2_r {K L : List PtI} (h : chkP K = 0) : chkP2 K L = chkP L := by unfold chkP2; rw [if_pos h]
theorem chkP_len {K : List PtI} (h : chkP K = 0) : K.length ≤ 30 := by
  unfold chkP at h
  by_cases q : 30 < K.length
  · rw [if_pos q] at h; cases h
  · omega
theorem chkP_all {K : List PtI} (h : chkP K = 0) : ∀ x ∈ K, chkI x = 0 := by
  have q := chkP_len h
  unfold chkP at h
  rw [if_neg (by omega)] at h
  exact chkPGo_zero.1 h
theorem rd_mapX {w : World} {a : Option Addr} {K : List PtI} {L : List PtX} (h : RdA encR 3 w a K) (e : L.map encP = K.map encR) : RdA encP 3 w a L := fun hn => by
  have hl : L.length = K.length := by simpa using congrArg List.length e
  obtain ⟨b, off, h1, h2, h3⟩ := h (by intro q; rw [q] at hl; exact hn (List.eq_nil_of_length_eq_zero (by simpa using hl)))
  refine ⟨b, off, h1, h2, fun i y hy j u hu => ?_⟩
  have hi : i < K.length := by rw [← hl]; exact (List.getElem?_eq_some_iff.1 hy).1
  have e2 := congrArg (fun z => z[i]?) e
  simp only [List.getElem?_map, hy, Option.map_some, List.getElem?_eq_getElem hi] at e2
  injection e2 with e2
  exact h3 i K[i] (List.getElem?_eq_getElem hi) j u (by rw [← e2]; exact hu)
/-- a list that passes: its parts say something -/
theorem parts_x {w : World} {a : Option Addr} {K : List PtI} (hv : RdA encR 3 w a K) (hm : MeansI w K) (hc : chkP K = 0) : ∃ L : List PtX, L.length = K.length ∧ L.length ≤ 30 ∧ RdA encP 3 w a L ∧ MeansP w L := by
  obtain ⟨L, h1, h2⟩ := hm.xs (chkP_all hc)
  have hl : L.length = K.length := by simpa using congrArg List.length h1
  exact ⟨L, hl, by have := chkP_len hc; omega, rd_mapX hv h1, h2⟩
theorem pwithin_half (K : List PtX) (L : List PtI) (va vb : Option Addr) (vc vd : Nat) (w : World) (hl : K.length ≤ 30) (hl2 : L.length ≤ 9223372036854775807) (hne : ¬ chkP L = 0) (hv : RdA encP 3 w va K) (hv2 : RdA encR 3 w vb L) (hm : MeansP w K) (hm2 : MeansI w L) :
    Calls Try.prog 5 #[.slice va K.length vc, .slice vb L.length vd] w fun e w' => e = .returned (.tuple #[.bool false, .int .i64 (chkP L)]) ∧ Gr w w' := by
  obtain ⟨K', h1, h2, h3⟩ := hm.is
  have hlen : K'.length = K.length := by simpa using congrArg List.length h1
  have e : chkP K' = 0 := by unfold chkP; rw [if_neg (by omega)]; exact chkPGo_zero.2 h3
  have h := pwithin_bad K' L va vb vc vd (by omega) hl2 (by rw [chkP2_r e]; exact hne) w (rd_map hv h1) hv2 h2 hm2
  rw [chkP2_r e, hlen] at h
  exact h
theorem rmean_r (L : List PtX) (va : Option Addr) (vc : Nat) (hl : L.length ≤ 1000) (w : World) (hv : RdA encP 3 w va L) (hm : MeansP w L) :
    Calls Try.prog 11 #[.slice va L.length vc] w fun e w' => ∃ (a : Option Addr) (c : Nat), e = .returned (.slice a (L.map PtX.d).length c) ∧ RdA encDoc 592 w' a (L.map PtX.d) ∧ Gr w w' := by
  refine (rmean_any L va vc hl w hv hm).mono ?_
  rintro e w' ⟨v, rfl, h, g⟩
  obtain ⟨a, c, rfl, -⟩ := ow_form h
  exact ⟨a, c, by rw [List.length_map], RdA.own encDoc_ok h (by rw [List.length_map]), g⟩
/-- Check at the one part with the vector [0] -/
theorem pcheck_lit (b bi : Nat) (t t' : TypeId) (w : World) (hb : Bk w b #[.slice none 0 0, .slice (some ⟨bi, 0, none⟩) 1 1, .slice none 0 0] t) (hbi : Bk w bi #[.int .i64 0] t') :
    Calls Try.prog 7 #[.slice (some ⟨b, 0, none⟩) 1 1] w fun e w' => e = .returned (.int .i64 3) ∧ Gr w w' := by
  obtain ⟨x, hx⟩ : ∃ x : PtI, x = ⟨none, 0, 0, some ⟨bi, 0, none⟩, 1, 1, none, 0, 0, [], [0], []⟩ := ⟨_, rfl⟩
  have hm : MeanI w x := by
    rw [hx]
    exact ⟨RdF.nil w, knR_vec1 hbi⟩
  have hr : RdA encR 3 w (some ⟨b, 0, none⟩) [x] := fun _ => ⟨b, 0, rfl, hb.lt, fun i y hy j u hu => by
    match i, hy with
    | 0, hy =>
      simp at hy
      subst hy
      rw [hx] at hu
      have := bk_part hb (k := 0) (l := [.slice none 0 0, .slice (some ⟨bi, 0, none⟩) 1 1, .slice none 0 0]) rfl j u hu
      simpa using this
    | i + 1, hy => simp at hy⟩
  have h := pcheck_any [x] (some ⟨b, 0, none⟩) 1 w (by simp) hr (fun y hy => by rw [List.mem_singleton.1 hy]; exact hm)
  have hi : chkI x = 3 := by
    rw [hx]
    show (if chkF ([] : List BoxI) = 0 then chkK [0] [] else chkF []) = 3
    decide
  have e : chkP [x] = 3 := by
    show (if 30 < [x].length then (2 : Int) else if chkI x = 0 then 0 else chkI x) = 3
    rw [hi]
    rfl
  rw [e] at h
  exact h
theorem hasV_o {K : List PtX} {t n a c : Int} (h : (pointB t n && dotB (a, c)) = false) : hasV K t n a c = false ∧ hasE t n a c = 1 := ⟨hasV_out h, by unfold hasE; rw [h]; rfl⟩
theorem hasV_i {K : List PtX} {t n a c : Nat} (ht : t < 16) (hn : n < 32) (hi : inR a c) (h : (pointB (t : Int) (n : Int) && dotB ((a : Int), (c : Int))) = true) : hasV K (t : Int) (n : Int) (a : Int) (c : Int) = hasP K t n a c ∧ hasE (t : Int) (n : Int) (a : Int) (c : Int) = 0 := ⟨hasV_in ht hn hi, by unfold hasE; rw [h]; rfl⟩
end Go.Proofs.Ythcehgmpajejeaa

/- An argument that is a slice of boxes reads as a list. -/
namespace Go.Proofs.Ythcehgmpajejeaa
open Go.ChangeShapes Go.WideShapes Go.ChangeAt Go.RowKit Go.Deep Rm
set_option linter.unusedVariables false

section
variable {H : Type} {enc : TypeId × Value → H} {W : World} {base : Nat} {spare : Nat → Bool} {held : Bool}
set_option maxRecDepth 100000 in
theorem spans_trod {fuel : Nat} {cs : List Value} {x : DataW H × List MemPlace} (h : DataW.trod enc Try.prog W base spare held fuel 81 cs = some x) : ∃ v l, cs = [v] ∧ Rd2 W v l := by
  rcases open_slice_pairs Try.underlying81 Try.underlying108 (by kernel_rfl) rfl rfl (by kernel_rfl) (by kernel_rfl) h with ⟨rfl, _⟩ | ⟨a, len, cap, m, n, V0, V1, D0, D1, P0, P1, rfl, hb, hl, hm, hmm, hx, hcell⟩
  · exact ⟨_, [], rfl, Rd2.nil W⟩
  · have hlm : len ≤ m := by rw [hmm]; split <;> omega
    obtain ⟨l, hl', _⟩ := rd2_of (W := W) (a := a) (V0 := V0) (V1 := V1) hl (fun i hi => ⟨(hcell i (by omega)).1, (hcell i (by omega)).2.1⟩) (fun i hi => by
      obtain ⟨_, _, t0, t1⟩ := hcell i (by omega)
      obtain ⟨x, ex, _, _⟩ := DataW.trod_int Try.underlying3 t0
      obtain ⟨y, ey, _, _⟩ := DataW.trod_int Try.underlying3 t1
      simp at ex ey
      exact ⟨x, y, ex, ey⟩)
    exact ⟨_, l, rfl, hl'⟩
theorem box_cells : Try.prog.cellsOf 83 = 3 := by kernel_rfl
theorem cube_cells : Try.prog.cellsOf 80 = 2 := by kernel_rfl
theorem int_cells : Try.prog.cellsOf 3 = 1 := by kernel_rfl
theorem spans_cells : Try.prog.cellsOf 81 = 1 := by kernel_rfl
set_option maxRecDepth 100000 in
theorem box_trod {fuel : Nat} {cs : List Value} {x : DataW H × List MemPlace} (h : DataW.trod enc Try.prog W base spare held fuel 83 cs = some x) : ∃ (p : BoxI) (sv : Value), cs = [.int .i64 p.1.1, .int .i64 p.1.2, sv] ∧ Rd2 W sv p.2 := by
  obtain ⟨xs, k, _, _, hlen, hxl, hf⟩ := DataW.trod_struct Try.underlying83 h
  rw [box_cells] at hlen
  have g0 : DataW.trod enc Try.prog W base spare held k 80 ((cs.drop 0).take (Try.prog.cellsOf 80)) = xs[0]? := hf 0 _ rfl
  have g1 : DataW.trod enc Try.prog W base spare held k 81 ((cs.drop 2).take (Try.prog.cellsOf 81)) = xs[1]? := hf 1 _ rfl
  rw [cube_cells] at g0
  rw [spans_cells] at g1
  match xs, hxl, cs, hlen with
  | [y0, y1], _, [v0, v1, v2], _ =>
    simp at g0 g1
    obtain ⟨ys, k', _, _, hlen', hyl, hf'⟩ := DataW.trod_struct Try.underlying80 g0
    have q0 : DataW.trod enc Try.prog W base spare held k' 3 (([v0, v1].drop 0).take (Try.prog.cellsOf 3)) = ys[0]? := hf' 0 _ rfl
    have q1 : DataW.trod enc Try.prog W base spare held k' 3 (([v0, v1].drop 1).take (Try.prog.cellsOf 3)) = ys[1]? := hf' 1 _ rfl
    rw [int_cells] at q0 q1
    match ys, hyl with
    | [z0, z1], _ =>
      simp at q0 q1
      obtain ⟨a, ea, _, _⟩ := DataW.trod_int Try.underlying3 q0
      obtain ⟨b, eb, _, _⟩ := DataW.trod_int Try.underlying3 q1
      simp at ea eb
      obtain ⟨sv, s, es, hs⟩ := spans_trod g1
      simp at es
      subst ea eb es
      exact ⟨((a, b), s), v2, rfl, hs⟩
set_option maxRecDepth 100000 in
theorem boxes_trod {fuel : Nat} {cs : List Value} {x : DataW H × List MemPlace} (h : DataW.trod enc Try.prog W base spare held fuel 36 cs = some x) : ∃ v l, cs = [v] ∧ RdF W v l := by
  rcases open_slice Try.underlying36 h with ⟨rfl, _⟩ | ⟨a, len, cap, m, n, D, Pl, rfl, hb, hl, hm, hmm, hx, hcell⟩
  · exact ⟨_, [], rfl, RdF.nil W⟩
  · have hlm : len ≤ m := by rw [hmm]; split <;> omega
    obtain ⟨q, hq⟩ := choose_lt (α := BoxI) (n := len) (p := fun i p => ∃ sv, W.cell? (a.add (i * 3)) = some (.int .i64 p.1.1) ∧ W.cell? (a.add (i * 3 + 1)) = some (.int .i64 p.1.2) ∧ W.cell? (a.add (i * 3 + 2)) = some sv ∧ Rd2 W sv p.2) (fun i hi => by
        obtain ⟨cs', h1, h2⟩ := hcell i (by omega)
        rw [box_cells] at h1
        obtain ⟨p, sv, rfl, hs⟩ := box_trod h2
        obtain ⟨_, _, hc⟩ := World.cells?_some h1
        have e0 := hc 0 (by omega)
        have e1 := hc 1 (by omega)
        have e2 := hc 2 (by omega)
        rw [add_add] at e0 e1 e2
        exact ⟨p, sv, by simpa using e0, by simpa using e1, by simpa using e2, hs⟩)
    refine ⟨_, (List.range len).map q, rfl, ⟨some a, cap, by simp, by simpa using hl, fun hne => ?_⟩⟩
    have h0 : 0 < len := by
      rcases Nat.eq_zero_or_pos len with h | h
      · subst h; simp at hne
      · exact h
    obtain ⟨b, off, spot⟩ := a
    obtain ⟨_, hc0, _⟩ := hq 0 h0
    have hspot : spot = none := by simpa [Addr.add] using World.cell?_spot hc0
    subst hspot
    have hlt : b < W.heap.size := by
      have := block_lt_of_cell hc0
      simpa [Addr.add] using this
    refine ⟨b, off, rfl, hlt, fun i p hp => ?_⟩
    have hil : i < len := by
      have := (List.getElem?_eq_some_iff.1 hp).1
      simpa using this
    have hp' : p = q i := by
      simp [List.getElem?_map, List.getElem?_range hil] at hp
      exact hp.symm
    subst hp'
    obtain ⟨sv, q1, q2, q3, q4⟩ := hq i hil
    rw [add_none] at q1 q2 q3
    exact ⟨sv, q1, by rw [Nat.add_assoc]; exact q2, by rw [Nat.add_assoc]; exact q3, q4⟩
end
end Go.Proofs.Ythcehgmpajejeaa

/- Arguments: slices of structs, whatever the struct; parts. -/
set_option linter.unusedVariables false
namespace Go.Proofs.Ythcehgmpajejeaa
open Go.ChangeShapes Go.WideShapes Go.ChangeAt Go.RowKit Go.Deep Rm Gx
section
variable {H : Type} {enc : TypeId × Value → H} {W : World} {base : Nat} {spare : Nat → Bool} {held : Bool}
set_option maxRecDepth 100000 in
theorem structs_trod {α : Type} [Inhabited α] {R : World → α → Prop} {en : α → List Value} {k : Nat} {S E : TypeId} (hu : Try.prog.underlying S = some (.slice E)) (hc1 : Try.prog.cellsOf E = k) (hk : 0 < k) (hen : ∀ x, (en x).length = k)
    (hE : ∀ (fuel : Nat) (cs : List Value) (x : DataW H × List MemPlace), DataW.trod enc Try.prog W base spare held fuel E cs = some x → ∃ p : α, cs = en p ∧ R W p)
    {fuel : Nat} {cs : List Value} {x : DataW H × List MemPlace} (h : DataW.trod enc Try.prog W base spare held fuel S cs = some x) : ∃ (a : Option Addr) (L : List α) (c : Nat), cs = [.slice a L.length c] ∧ L.length ≤ c ∧ c ≤ maxLen ∧ (a = none → c = 0) ∧ RdA en k W a L ∧ ∀ p ∈ L, R W p := by
  rcases open_slice hu h with ⟨rfl, _⟩ | ⟨a, len, cap, m, n, D, Pl, rfl, hb, hl, hm, hmm, hx, hcell⟩
  · exact ⟨none, [], 0, rfl, Nat.le_refl _, Nat.zero_le _, fun _ => rfl, fun hn => absurd rfl hn, fun p hp => by cases hp⟩
  · have hlm : len ≤ m := by rw [hmm]; split <;> omega
    obtain ⟨q, hq⟩ := choose_lt (α := α) (n := len) (p := fun i p => (∀ j, j < k → W.cell? (a.add (i * k + j)) = (en p)[j]?) ∧ R W p) (fun i hi => by
        obtain ⟨cs', h1, h2⟩ := hcell i (by omega)
        rw [hc1] at h1
        obtain ⟨p, rfl, hs⟩ := hE _ _ _ h2
        obtain ⟨_, _, hc⟩ := World.cells?_some h1
        exact ⟨p, fun j hj => by rw [← add_add]; exact hc j hj, hs⟩)
    refine ⟨some a, (List.range len).map q, cap, by simp, by simpa using hl, hm, (fun e => by cases e), fun hne => ?_, fun p hp => ?_⟩
    · have h0 : 0 < len := by
        rcases Nat.eq_zero_or_pos len with h | h
        · subst h; simp at hne
        · exact h
      obtain ⟨b, off, spot⟩ := a
      obtain ⟨hc0, _⟩ := hq 0 h0
      obtain ⟨u, hu0⟩ : ∃ u, (en (q 0))[0]? = some u := by
        have : 0 < (en (q 0)).length := by rw [hen]; exact hk
        exact ⟨_, List.getElem?_eq_getElem this⟩
      have hc0' := (hc0 0 hk).trans hu0
      have hspot : spot = none := by simpa [Addr.add] using World.cell?_spot hc0'
      subst hspot
      have hlt : b < W.heap.size := by
        have := block_lt_of_cell hc0'
        simpa [Addr.add] using this
      refine ⟨b, off, rfl, hlt, fun i p hp j u hu => ?_⟩
      have hil : i < len := by
        have := (List.getElem?_eq_some_iff.1 hp).1
        simpa using this
      have hp' : p = q i := by
        simp [List.getElem?_map, List.getElem?_range hil] at hp
        exact hp.symm
      subst hp'
      have hj : j < k := by
        have := (List.getElem?_eq_some_iff.1 hu).1
        rwa [hen] at this
      have q1 := ((hq i hil).1 j hj).trans hu
      rw [add_none] at q1
      rw [Nat.add_assoc]
      exact q1
    · obtain ⟨i, hi, rfl⟩ := List.mem_map.1 hp
      exact (hq i (List.mem_range.1 hi)).2
theorem part_cells : Try.prog.cellsOf 38 = 3 := by kernel_rfl
theorem pboxes_cells : Try.prog.cellsOf 36 = 1 := by kernel_rfl
theorem RdF.form {w : World} {v : Value} {l : List BoxI} (h : RdF w v l) : ∃ a n c, v = .slice a n c := by
  obtain ⟨a, c, rfl, -⟩ := h
  exact ⟨_, _, _, rfl⟩
set_option maxRecDepth 100000 in
theorem part_trod {fuel : Nat} {cs : List Value} {x : DataW H × List MemPlace} (h : DataW.trod enc Try.prog W base spare held fuel 38 cs = some x) : ∃ p : PtI, cs = encR p ∧ MeanI W p := by
  obtain ⟨xs, k, _, _, hlen, hxl, hf⟩ := DataW.trod_struct Try.underlying38 h
  rw [part_cells] at hlen
  have g0 : DataW.trod enc Try.prog W base spare held k 36 ((cs.drop 0).take (Try.prog.cellsOf 36)) = xs[0]? := hf 0 _ rfl
  have g1 : DataW.trod enc Try.prog W base spare held k 35 ((cs.drop 1).take (Try.prog.cellsOf 35)) = xs[1]? := hf 1 _ rfl
  rw [pboxes_cells] at g0
  rw [know_cells] at g1
  match xs, hxl, cs, hlen with
  | [y0, y1], _, [v0, v1, v2], _ =>
    simp at g0 g1
    obtain ⟨fv, l, e0, h0⟩ := boxes_trod g0
    obtain ⟨vv, mv, V, M, e1, h1, h2, h3⟩ := know_trod g1
    simp at e0 e1
    obtain ⟨rfl, rfl⟩ := e1
    subst e0
    obtain ⟨fa, fn, fc, rfl⟩ := h0.form
    obtain ⟨va, vc, ma, mc, e, -, -⟩ := knr_form (k := .agg #[v1, v2]) ⟨_, _, rfl, h1, h2, h3⟩
    injection e with e
    obtain ⟨e1, e2⟩ : v1 = .slice va V.length vc ∧ v2 = .slice ma M.length mc := by simpa using e
    subst e1 e2
    exact ⟨⟨fa, fn, fc, va, V.length, vc, ma, M.length, mc, l, V, M⟩, rfl, ⟨h0, ⟨_, _, rfl, h1, h2, h3⟩⟩⟩
instance : Inhabited PtI := ⟨⟨none, 0, 0, none, 0, 0, none, 0, 0, [], [], []⟩⟩
set_option maxRecDepth 100000 in
theorem open_parts {r : Reach} {b0 : Nat} {v : Value} {d : DataW H} {p : List MemPlace}
    (hv : Value.okWide Try.prog W r b0 22 v) (h : DataW.Trod enc Try.prog W base spare held 22 v d p) : ∃ (a : Option Addr) (K : List PtI) (c : Nat), v = .slice a K.length c ∧ K.length ≤ c ∧ c ≤ maxLen ∧ (a = none → c = 0) ∧ RdA encR 3 W a K ∧ MeansI W K := by
  obtain ⟨a0, len0, cap0, rfl⟩ := okWide_slice Try.underlying22 hv
  obtain ⟨fuel, hf⟩ := h
  obtain ⟨a, K, c, e, h1, h2, h3, h4, h5⟩ := structs_trod (R := MeanI) (en := encR) Try.underlying22 part_cells (by decide) (fun _ => rfl) (fun _ _ _ q => part_trod q) hf
  simp [Value.cells] at e
  exact ⟨a, K, c, by simp [e], h1, h2, h3, h4, h5⟩
end
end Go.Proofs.Ythcehgmpajejeaa

