/- The document's sets of dots: Size, Formed, Know. -/
import Derived.Test.YtghjfakellaecaaKmA
import Derived.Test.YtghjfakellaecaaKnD
set_option linter.unusedVariables false
set_option linter.unusedSimpArgs false
namespace Rm
open Go Go.RowKit Gx
def cntI (f : Nat → Nat) : Nat → Nat
  | 0 => 0
  | n + 1 => cntI f n + f n
def kpopc (x : Nat) : Nat := kcntTo x.testBit 64
theorem cntTo_add (f : Nat → Bool) (a b : Nat) : kcntTo f (a + b) = kcntTo f a + kcntTo (fun i => f (a + i)) b := by
  induction b with
  | zero => rfl
  | succ b ih => rw [← Nat.add_assoc]; simp only [kcntTo]; rw [ih]; omega
theorem cntTo_words (X : Nat → Nat) (i k : Nat) : kcntTo (dsX X i) (k * 64) = cntI (fun k => kpopc (X (i * 16 + k))) k := by
  induction k with
  | zero => rfl
  | succ k ih =>
    rw [Nat.succ_mul, cntTo_add, ih]
    simp only [cntI, kpopc]
    congr 1
    exact kcntTo_congr fun j hj => by
      unfold dsX
      rw [show (k * 64 + j) / 64 = k by omega, show (k * 64 + j) % 64 = j by omega]
theorem cntS_words (X : Nat → Nat) (i : Nat) : cntS (dsX X) i = cntI (fun k => kpopc (X (i * 16 + k))) 16 := cntTo_words X i 16
theorem cntD_sites (D : DS) : cntI (cntS D) 5 = cntD D := by simp [cntI, cntD]
theorem kpopc_le (x : Nat) : kpopc x ≤ 64 := by
  have : ∀ n, kcntTo x.testBit n ≤ n := by
    intro n
    induction n with
    | zero => exact Nat.le_refl _
    | succ n ih => simp only [kcntTo]; split <;> omega
  exact this 64
theorem cntTo_le' (f : Nat → Bool) (n : Nat) : kcntTo f n ≤ n := by
  induction n with
  | zero => exact Nat.le_refl _
  | succ n ih => simp only [kcntTo]; split <;> omega
theorem cntI_le (f : Nat → Nat) (c n : Nat) (h : ∀ i, f i ≤ c) : cntI f n ≤ n * c := by
  induction n with
  | zero => simp [cntI]
  | succ n ih => simp only [cntI]; have := h n; rw [Nat.succ_mul]; omega
theorem bit_step (x j : Nat) : kcntTo x.testBit (j + 1) = kcntTo x.testBit j + (x / 2 ^ j) % 2 := by
  simp only [kcntTo]
  congr 1
  rw [Nat.testBit_eq_decide_div_mod_eq]
  have : x / 2 ^ j % 2 < 2 := Nat.mod_lt _ (by omega)
  generalize x / 2 ^ j % 2 = r at *
  have hr : r = 0 ∨ r = 1 := by omega
  rcases hr with rfl | rfl <;> rfl
theorem bits_done {x j : Nat} (hj : j ≤ 64) (h : x / 2 ^ j = 0) : kcntTo x.testBit j = kpopc x := by
  unfold kpopc
  have : kcntTo x.testBit 64 = kcntTo x.testBit j := by
    obtain ⟨k, hk⟩ : ∃ k, 64 = j + k := ⟨64 - j, by omega⟩
    rw [hk, cntTo_add]
    suffices h0 : kcntTo (fun i => x.testBit (j + i)) k = 0 by rw [h0, Nat.add_zero]
    refine kcntTo_none ?_
    intro i _
    have : x < 2 ^ j := by
      rcases Nat.lt_or_ge x (2 ^ j) with q | q
      · exact q
      · have := Nat.div_pos q (Nat.two_pow_pos j); omega
    exact Nat.testBit_lt_two_pow (Nat.lt_of_lt_of_le this (Nat.pow_le_pow_right (by omega) (by omega)))
  exact this.symm
/-- five integers -/
def a5 (f : Nat → Int) : Array Value := #[.int .i64 (f 0), .int .i64 (f 1), .int .i64 (f 2), .int .i64 (f 3), .int .i64 (f 4)]
def u5 (f : Nat → Int) (s : Nat) (z : Int) : Nat → Int := fun t => if t = s then z else f t
theorem a5_at (f : Nat → Int) (s : Nat) (h : s < 5) : (a5 f)[s]? = some (.int .i64 (f s)) := by
  match s, h with
  | 0, _ | 1, _ | 2, _ | 3, _ | 4, _ => rfl
theorem a5_set (f : Nat → Int) (s : Nat) (z : Int) (h : s < 5) : (a5 f).setIfInBounds s (.int .i64 z) = a5 (u5 f s z) := by
  match s, h with
  | 0, _ | 1, _ | 2, _ | 3, _ | 4, _ => rfl
theorem a5_ext {f g : Nat → Int} (h : ∀ s, s < 5 → f s = g s) : a5 f = a5 g := by
  unfold a5
  rw [h 0 (by omega), h 1 (by omega), h 2 (by omega), h 3 (by omega), h 4 (by omega)]
theorem a5_one (f : Nat → Int) : (a5 f).all (·.oneCell') = true := by simp [a5, Value.oneCell']
/-- a vector's first integers -/
def gv (V : List Int) (i : Nat) : Nat → Int := fun s => if s < i then V.getD s 0 else 0
theorem gv_zero (V : List Int) : gv V 0 = fun _ => 0 := by funext s; simp [gv]
theorem gv_next {V : List Int} {i : Nat} {x : Int} (h : V[i]? = some x) : u5 (gv V i) i x = gv V (i + 1) := by
  funext s
  unfold u5 gv
  by_cases e : s = i
  · subst e; simp [List.getD, h]
  · rw [if_neg e]
    by_cases q : s < i
    · rw [if_pos q, if_pos (by omega)]
    · rw [if_neg q, if_neg (by omega)]
theorem badV_ok {V : List Int} {i : Nat} {x : Int} (h : V[i]? = some x) (k : 0 ≤ x ∧ x ≤ 1000) : badV V i = 0 := by
  unfold badV; rw [h]; simp only; rw [if_neg (by omega)]
theorem badV_bad {V : List Int} {i : Nat} {x : Int} (h : V[i]? = some x) (k : ¬ (0 ≤ x ∧ x ≤ 1000)) : badV V i = 1 := by
  unfold badV; rw [h]; simp only; rw [if_pos (by omega)]
theorem chk_vec {V : List Int} {M : List (Int × Int)} {i : Nat} (hl : ¬ (5 < V.length ∨ 60 < M.length)) (h : ∀ j, j < i → badV V j = 0) (hi : i < V.length) (hb : badV V i = 1) : chkK V M = 1 := by
  have h1 : first (badV V) V.length = 1 := (first_some h hi (by omega)).trans hb
  have h2 : chkV V = 1 := by unfold chkV; rw [if_pos (by omega), h1]
  rw [Go.Proofs.Ytghjfakellaecaa.chkK_vec hl (by omega), h2]
theorem chk_last {V : List Int} {M : List (Int × Int)} (hl : ¬ (5 < V.length ∨ 60 < M.length)) (h : ∀ j, j < V.length → badV V j = 0) (h0 : 0 < V.length) (hz : V[V.length - 1]? = some 0) : chkK V M = 3 := by
  have h2 : chkV V = 3 := by
    unfold chkV
    rw [if_neg (by rw [first_none h]; simp), if_pos (by rw [List.getLast?_eq_getElem?]; exact hz)]
  rw [Go.Proofs.Ytghjfakellaecaa.chkK_vec hl (by omega), h2]
theorem chkV_ok {V : List Int} (h : ∀ j, j < V.length → badV V j = 0) (hz : V.length = 0 ∨ ∃ x, V[V.length - 1]? = some x ∧ x ≠ 0) : chkV V = 0 := by
  unfold chkV
  rw [if_neg (by rw [first_none h]; simp), if_neg ?_]
  rw [List.getLast?_eq_getElem?]
  rcases hz with e | ⟨x, e, hx⟩
  · rw [List.eq_nil_of_length_eq_zero e]; simp
  · rw [e]; simpa using hx
theorem chk_dot {V : List Int} {M : List (Int × Int)} {k : Nat} {d : Int} (hl : ¬ (5 < V.length ∨ 60 < M.length)) (hv : chkV V = 0) (h : ∀ j, j < k → badM (natsI V) M j = 0) (hk : k < M.length) (hb : badM (natsI V) M k = d) (hd : d ≠ 0) : chkK V M = d := by
  rw [Go.Proofs.Ytghjfakellaecaa.chkK_more hl hv]
  unfold chkM
  rw [first_some h hk (by omega), hb]
theorem chk_ok {V : List Int} {M : List (Int × Int)} (hl : ¬ (5 < V.length ∨ 60 < M.length)) (hv : chkV V = 0) (h : ∀ j, j < M.length → badM (natsI V) M j = 0) : chkK V M = 0 := by
  rw [Go.Proofs.Ytghjfakellaecaa.chkK_more hl hv]
  exact first_none h
theorem gv_cv {V : List Int} (h : ∀ j, j < V.length → badV V j = 0) (s : Nat) {i : Nat} (hi : V.length ≤ i) : gv V i s = (cv (natsI V) s : Int) := by
  have hb := badV_zero h
  unfold gv cv natsI
  rw [List.getD_eq_getElem?_getD, List.getD_eq_getElem?_getD, List.getElem?_map]
  cases e : V[s]? with
  | none => simp
  | some x =>
    have := hb x (List.mem_of_getElem? e)
    have hs := (List.getElem?_eq_some_iff.1 e).1
    rw [if_pos (by omega)]
    simp; omega
theorem gv_le {V : List Int} (h : ∀ j, j < V.length → badV V j = 0) (i s : Nat) : 0 ≤ gv V i s ∧ gv V i s ≤ 1000 := by
  have hb := badV_zero h
  unfold gv
  split
  · rw [List.getD_eq_getElem?_getD]
    cases e : V[s]? with
    | none => simp
    | some x => exact hb x (List.mem_of_getElem? e)
  · omega
theorem badM_dot {v : List Nat} {M : List (Int × Int)} {k : Nat} {d : Int × Int} (h : M[k]? = some d) (hb : dotB d = false) : badM v M k = 1 := by
  unfold badM; rw [h]; simp only; rw [if_pos hb]
theorem badM_form {v : List Nat} {M : List (Int × Int)} {k : Nat} {d : Int × Int} (h : M[k]? = some d) (hb : dotB d = true) (hf : d.2 < (cv v d.1.toNat : Int) + 2 ∨ (0 < k ∧ ¬ ltI (M.getD (k - 1) (0, 0)) d)) : badM v M k = 3 := by
  unfold badM; rw [h]; simp only; rw [if_neg (by rw [hb]; simp), if_pos hf]
theorem badM_ok {v : List Nat} {M : List (Int × Int)} {k : Nat} {d : Int × Int} (h : M[k]? = some d) (hb : dotB d = true) (hf : ¬ (d.2 < (cv v d.1.toNat : Int) + 2 ∨ (0 < k ∧ ¬ ltI (M.getD (k - 1) (0, 0)) d))) : badM v M k = 0 := by
  unfold badM; rw [h]; simp only; rw [if_neg (by rw [hb]; simp), if_neg hf]
theorem all_up {f : Nat → Int} {k : Nat} (h : ∀ j, j < k → f j = 0) (hk : f k = 0) : ∀ j, j < k + 1 → f j = 0 := by
  intro j hj
  by_cases e : j = k
  · rw [e]; exact hk
  · exact h j (by omega)
/-- the dot of before -/
def lastD (M : List (Int × Int)) (k : Nat) (a b : Int) : Prop := (k = 0 ∧ a = -1 ∧ b = 0) ∨ (0 < k ∧ M[k - 1]? = some (a, b))
theorem lastD_lt {M : List (Int × Int)} {k : Nat} {a b x y : Int} (h : lastD M k a b) (hx : 0 ≤ x) (hc : x < a ∨ (x = a ∧ y ≤ b)) : 0 < k ∧ ¬ ltI (M.getD (k - 1) (0, 0)) (x, y) := by
  rcases h with ⟨h1, h2, h3⟩ | ⟨h1, h2⟩
  · omega
  · refine ⟨h1, ?_⟩
    rw [List.getD_eq_getElem?_getD, h2]
    unfold ltI
    simp only [Option.getD_some]
    omega
theorem lastD_ge {M : List (Int × Int)} {k : Nat} {a b x y : Int} (h : lastD M k a b) (hc : ¬ (x < a ∨ (x = a ∧ y ≤ b))) : ¬ (0 < k ∧ ¬ ltI (M.getD (k - 1) (0, 0)) (x, y)) := by
  rcases h with ⟨h1, h2, h3⟩ | ⟨h1, h2⟩
  · omega
  · rintro ⟨-, h3⟩
    apply h3
    rw [List.getD_eq_getElem?_getD, h2]
    unfold ltI
    simp only [Option.getD_some]
    omega
end Rm
namespace Gx
open Go Go.RowKit Rm
section
variable {P : Program} {ev : Operand → Value} {d : Option Tmp} {ty : TypeId} {p : String} {af : Array Edge} {g : Option (Nat × Bool)} {w : World}
theorem o_notD {t : TypeId} {x : Operand} {q : Prop} [Decidable q] (hx : ev x = .bool (decide q)) : (execOp ev (Oper.mk d (.unOp .not t x) ty p af g)).run P w = .ok (.value (.bool (decide (¬ q)))) w := o_not hx (by simp)
theorem o_quoU {t t' : TypeId} {x y : Operand} {i j r : Nat} (hx : ev x = .int .u64 (i : Int)) (hy : ev y = .int .u64 (j : Int)) (hj : 0 < j) (hi : i < 2 ^ 64) (hr : i / j = r) : (execOp ev (Oper.mk d (.binOp .quo t x y t') ty p af g)).run P w = .ok (.value (.int .u64 (r : Int))) w := by
  subst hr
  have h0 : ¬ (j : Int) = 0 := by omega
  have h1 : (i : Int).tdiv (j : Int) = ((i / j : Nat) : Int) := by rw [Int.tdiv_eq_ediv_of_nonneg (by omega)]; rfl
  have hle : i / j ≤ i := Nat.div_le_self _ _
  have h2 : IntKind.u64.wrap ((i / j : Nat) : Int) = ((i / j : Nat) : Int) := by
    generalize i / j = q at *
    exact IntWalk.u64_in _ ⟨Int.natCast_nonneg _, by omega⟩
  unfold execOp
  simp only [hx, hy, eqGuard, binOp, Op.intDiv, if_neg h0, h1, h2, Sem.run_bind]
  rfl
theorem o_remU {t t' : TypeId} {x y : Operand} {i j r : Nat} (hx : ev x = .int .u64 (i : Int)) (hy : ev y = .int .u64 (j : Int)) (hj : 0 < j) (hr : i % j = r) : (execOp ev (Oper.mk d (.binOp .rem t x y t') ty p af g)).run P w = .ok (.value (.int .u64 (r : Int))) w := by
  subst hr
  have h0 : ¬ (j : Int) = 0 := by omega
  have h1 : (i : Int).tmod (j : Int) = ((i % j : Nat) : Int) := by rw [Int.tmod_eq_emod_of_nonneg (by omega)]; rfl
  unfold execOp
  simp only [hx, hy, eqGuard, binOp, Op.intDiv, if_neg h0, h1, Sem.run_bind]
  rfl
theorem o_cv {s t : TypeId} {x : Operand} {k k' : IntKind} {i r : Int} (hx : ev x = .int k i) (hs : P.underlying s = some (.int k)) (ht : P.underlying t = some (.int k')) (hr : k'.wrap i = r) : (execOp ev (Oper.mk d (.convert s t x) ty p af g)).run P w = .ok (.value (.int k' r)) w := by
  subst hr
  simp [execOp, convert, hx, run_underlying hs, run_underlying ht, Conv.intToInt, go_sem]
theorem o_ixA {t e : TypeId} {x y : Operand} {cs : Array Value} {n i : Nat} {v : Value} (hx : ev x = .agg cs) (hy : ev y = .int .i64 (i : Int)) (hu : P.underlying t = some (.array n e)) (hA : (isAgg e).run P w = .ok false w) (hz : (P.info? e).map (·.size) = some 1) (hi : i < n) (hv : cs[i]? = some v) : (execOp ev (Oper.mk d (.index t x y) ty p af g)).run P w = .ok (.value v) w := by
  have h1 := size_of hz w
  have hi' : (0 : Int) ≤ (i : Int) ∧ (i : Int) < (n : Int) := by omega
  unfold execOp
  simp only [hx, hy, Instr.index, asIntOf, Sem.run_bind, run_underlying hu w, Sem.run_pure, Result.andThen_ok, if_pos hi', h1, Int.toNat_natCast, part, hA, Nat.mul_one, hv]
  rfl
end
end Gx
namespace Go.Proofs.Ytghjfakellaecaa
open Go.RowKit Rm Gx
theorem rwithin_p (x a b : Int) (w : World) : Calls Try.prog 44 #[.int .i64 x, .int .i64 a, .int .i64 b] w fun e w' => e = .returned (.bool (decide (a ≤ x ∧ x ≤ b))) ∧ Gr w w' :=
  (rwithin_any x a b w).mono fun e w' ⟨h, h'⟩ => ⟨by rw [h, Bool.decide_and], by rw [h']; exact Gr.refl _⟩
theorem rdot_p (x y : Int) (w : World) : Calls Try.prog 11 #[.agg #[.int .i64 x, .int .i64 y]] w fun e w' => e = .returned (.bool (decide (dotB (x, y) = true))) ∧ Gr w w' :=
  (rdot_any (x, y) w).mono fun e w' ⟨h, h'⟩ => ⟨by rw [h]; simp, h'⟩
theorem a5_zero : (Try.prog.info? 61).bind (·.zero) = some (.agg (a5 fun _ => 0)) := by kernel_rfl
theorem a5_size (f : Nat → Int) : (Try.prog.info? 61).map (·.size) = some (a5 f).size := by kernel_rfl
/-- part of the words -/
theorem words_at (X : Nat → Nat) (i k : Nat) (hi : i < 5) (hk : k < 16) : ((List.range 16).map fun k => Value.int .u64 ((X (0 + i * 16 + k) : Nat) : Int))[k]? = some (.int .u64 ((X (0 + i * 16 + k) : Nat) : Int)) := by simp [hk]
theorem words_cells {w : World} {b : Nat} {X : Nat → Nat} {t : TypeId} {i : Nat} (h : Bk w b (wArr X) t) (hi : i < 5) : ∀ j v, ((List.range 16).map fun k => Value.int .u64 ((X (0 + i * 16 + k) : Nat) : Int))[j]? = some v → w.cell? ⟨b, 0 + i * 16 + j, none⟩ = some v := by
  intro j v hv
  have hj : j < 16 := by have := (List.getElem?_eq_some_iff.1 hv).1; simpa using this
  rw [words_at X i j hi hj] at hv
  exact (h.cell _ (wArr_at X _ (by omega))).trans hv
set_option maxHeartbeats 8000000 in
set_option maxRecDepth 100000 in
theorem rknow_k (va ma : Option Addr) (vc mc : Nat) (V : List Int) (M : List (Int × Int)) (w : World) (hv : RdI1 w va V) (hm : RdDI w ma M) :
    Calls Try.prog 41 #[.agg #[.slice va V.length vc, .slice ma M.length mc]] w fun e w' => e = .returned (.int .i64 (chkK V M)) ∧ Gr w w' := by
  refine enter (N := 92) Try.func41 rfl rfl rfl (fun a0 ok0 h0 => ?_)
  have e0_0 : a0.eval (.tmp 0) = .agg #[.slice va V.length vc, .slice ma M.length mc] := h0 0 _ rfl
  clear h0
  have G0 := Gr.refl w
  refine wp_seq_k (fun K1 hK1 => ?_)
  refine wp_region_lit ?_
  refine sal (cs := #[.slice va V.length vc, .slice ma M.length mc]) ok0 rfl (wn _ rfl) rfl (o_box e0_0) (fun an2 w4 b3 W5 n2 => ?_)
  have l6 : w.heap.size ≤ b3 := by rw [W5.eq]; exact G0.size
  have G7 := G0.trans W5.gr
  refine sv n2.ok rfl (wn _ rfl) rfl (o_as ev_const) (fun an8 n8 => ?_)
  refine wpList_nil ?_
  refine th_n (hK1 _ _ ?_)
  refine wp_seq_k (fun K9 hK9 => ?_)
  refine wp_seq_k (fun K10 hK10 => ?_)
  refine wp_region_lit ?_
  refine sv n8.ok rfl (wn _ rfl) rfl (o_fa (z := 1) (n8.ne rfl n2.at_) Try.underlying35 rfl (by kernel_rfl) rfl rfl) (fun an11 n11 => ?_)
  refine sv n11.ok rfl (wn _ rfl) rfl (o_ld n11.at_ (Try.isAgg32 _) (W5.bk.cell _ rfl)) (fun an12 n12 => ?_)
  refine sv n12.ok rfl (wn _ rfl) rfl (o_len n12.at_ Try.underlying32) (fun an13 n13 => ?_)
  refine sv n13.ok rfl (wn _ rfl) rfl (o_gtI n13.at_ ev_const) (fun an14 n14 => ?_)
  refine sv n14.ok rfl (wn _ rfl) rfl (o_mv n14.at_) (fun an15 n15 => ?_)
  by_cases c16 : (5 : Int) < ((V.length : Nat) : Int)
  · have e17 := (n15.at_).trans (congrArg Value.bool (decide_eq_true c16))
    have e18 := ((n15.ne rfl n14.at_)).trans (congrArg Value.bool (decide_eq_true c16))
    refine sn n15.ok rfl (wgF rfl (yl 4 true rfl e17) rfl) rfl (fun an19 n19 => ?_)
    refine sn n19.ok rfl (wgF rfl (yl 4 true rfl (n19.ne rfl e17)) rfl) rfl (fun an20 n20 => ?_)
    refine sn n20.ok rfl (wgF rfl (yl 4 true rfl (n20.ne rfl (n19.ne rfl e17))) rfl) rfl (fun an21 n21 => ?_)
    have e22 := n21.ne rfl (n20.ne rfl (n19.ne rfl e17))
    refine sn n21.ok rfl (wgF rfl (yl 4 true rfl e22) rfl) rfl (fun an23 n23 => ?_)
    refine sv n23.ok rfl (wn _ rfl) rfl (o_pkT (n23.ne rfl e22) ev_const) (fun an24 n24 => ?_)
    refine wpList_nil ?_
    refine th_n (hK10 _ _ ?_)
    refine wp_cond_true (n24.at_) ?_
    refine wp_seq_k (fun K25 hK25 => ?_)
    refine wp_region_lit ?_
    refine sv n24.ok rfl (wn _ rfl) rfl (o_as ev_const) (fun an26 n26 => ?_)
    refine wpList_nil ?_
    refine th_n (hK25 _ _ ?_)
    refine wp_ret ?_
    refine th_r ?_
    exact ret1 n26.ok rfl (n26.at_) ⟨by rw [Go.Proofs.Ytghjfakellaecaa.chkK_large (by omega)], G7⟩
  · have e27 := (n15.at_).trans (congrArg Value.bool (decide_eq_false c16))
    have e28 := ((n15.ne rfl n14.at_)).trans (congrArg Value.bool (decide_eq_false c16))
    have e29 := n15.ne rfl (n14.ne rfl (n13.ne rfl (n12.ne rfl (n11.ne rfl (n8.ne rfl n2.at_)))))
    refine sv n15.ok rfl (wgT rfl (yl 4 false rfl e27) rfl) rfl (o_fa (z := 1) e29 Try.underlying35 rfl (by kernel_rfl) rfl rfl) (fun an30 n30 => ?_)
    refine sv n30.ok rfl (wgT rfl (yl 4 false rfl (n30.ne rfl e27)) rfl) rfl (o_ld n30.at_ (Try.isAgg33 _) (W5.bk.cell _ rfl)) (fun an31 n31 => ?_)
    refine sv n31.ok rfl (wgT rfl (yl 4 false rfl (n31.ne rfl (n30.ne rfl e27))) rfl) rfl (o_len n31.at_ Try.underlying33) (fun an32 n32 => ?_)
    have e33 := n32.ne rfl (n31.ne rfl (n30.ne rfl e27))
    refine sv n32.ok rfl (wgT rfl (yl 4 false rfl e33) rfl) rfl (o_gtI n32.at_ ev_const) (fun an34 n34 => ?_)
    refine sv n34.ok rfl (wn _ rfl) rfl (o_pkF (n34.ne rfl e33) n34.at_) (fun an35 n35 => ?_)
    refine wpList_nil ?_
    refine th_n (hK10 _ _ ?_)
    by_cases c36 : (60 : Int) < ((M.length : Nat) : Int)
    · refine wp_cond_true ((n35.at_).trans (congrArg Value.bool (decide_eq_true c36))) ?_
      refine wp_seq_k (fun K37 hK37 => ?_)
      refine wp_region_lit ?_
      refine sv n35.ok rfl (wn _ rfl) rfl (o_as ev_const) (fun an38 n38 => ?_)
      refine wpList_nil ?_
      refine th_n (hK37 _ _ ?_)
      refine wp_ret ?_
      refine th_r ?_
      exact ret1 n38.ok rfl (n38.at_) ⟨by rw [Go.Proofs.Ytghjfakellaecaa.chkK_large (by omega)], G7⟩
    · refine wp_cond_false ((n35.at_).trans (congrArg Value.bool (decide_eq_false c36))) ?_
      refine wp_skip ?_
      refine th_n (hK9 _ _ ?_)
      refine wp_seq_k (fun K39 hK39 => ?_)
      refine wp_region_lit ?_
      refine sv n35.ok rfl (wn _ rfl) rfl (o_b0A Try.underlying61 a5_zero (by kernel_rfl)) (fun an40 n40 => ?_)
      refine sal (cs := a5 (fun _ => 0)) n40.ok rfl (wn _ rfl) rfl (o_al (z := .agg (a5 (fun _ => 0))) a5_zero) (fun an41 w43 b42 W44 n41 => ?_)
      have l45 : b3 < b42 := by rw [W44.eq]; exact W5.bk.lt
      have l46 : w.heap.size ≤ b42 := by rw [W44.eq]; exact G7.size
      have G47 := G7.trans W44.gr
      have B48 := W5.bk.gr W44.gr
      refine ssR rfl (wn _ rfl) (o_stR n41.at_ (n41.ne rfl n40.at_) W44.bk (a5_size _) rfl (a5_one _)) W44.bk (fun w49 u50 u50b => ?_)
      have G51 : Gr w w49 := Below.upd G47 l46 u50
      have B52 := B48.upd u50 (Nat.ne_of_lt l45)
      refine wpList_nil ?_
      refine th_n (hK39 _ _ ?_)
      refine wp_seq_k (fun K53 hK53 => ?_)
      refine wp_seq_k (fun K54 hK54 => ?_)
      refine wp_region_lit ?_
      have e55 := n41.ne rfl (n40.ne rfl (n35.ne rfl (n34.ne rfl (n32.ne rfl (n31.ne rfl (n30.ne rfl e29))))))
      refine sv n41.ok rfl (wn _ rfl) rfl (o_fa (z := 1) e55 Try.underlying35 rfl (by kernel_rfl) rfl rfl) (fun an56 n56 => ?_)
      refine sv n56.ok rfl (wn _ rfl) rfl (o_ld n56.at_ (Try.isAgg32 _) (B52.cell _ rfl)) (fun an57 n57 => ?_)
      refine sv n57.ok rfl (wn _ rfl) rfl (o_len n57.at_ Try.underlying32) (fun an58 n58 => ?_)
      refine sv n58.ok rfl (wn _ rfl) rfl (o_mv ev_const) (fun an59 n59 => ?_)
      refine wpList_nil ?_
      refine th_n (hK54 _ _ ?_)
      refine wp_block ?_
      have hl : ¬ (5 < V.length ∨ 60 < M.length) := by omega
      have e61 := n59.ne rfl (n58.ne rfl (n57.ne rfl (n56.ne rfl e55)))
      have e62 := n59.ne rfl (n58.ne rfl (n57.ne rfl (n56.ne rfl (n41.ne rfl (n40.ne rfl (n35.ne rfl (n34.ne rfl (n32.ne rfl (n31.ne rfl (n30.ne rfl (n15.ne rfl (n14.ne rfl (n13.ne rfl (n12.ne rfl (n11.ne rfl n8.at_)))))))))))))))
      have e63 := n59.ne rfl (n58.ne rfl (n57.ne rfl (n56.ne rfl n41.at_)))
      refine lp (fun (nL : Nat) (aL : Act) (wL : World) => ∃ i : Nat, nL = V.length - i ∧ Ok 92 aL ∧ Gr w wL ∧ (aL.eval (.tmp 1) = .pointer (some ⟨b3, 0, none⟩)) ∧ (aL.eval (.tmp 2) = .int .i64 0) ∧ (aL.eval (.tmp 3) = .pointer (some ⟨b42, 0, none⟩)) ∧ (aL.eval (.tmp 22) = .slice va V.length vc) ∧ (aL.eval (.tmp 23) = .int .i64 ((V.length : Nat) : Int)) ∧ (aL.eval (.tmp 24) = .int .i64 (i : Int)) ∧ (Bk wL b3 #[.slice va V.length vc, .slice ma M.length mc] 35) ∧ (Bk wL b42 (a5 (gv V i)) 61) ∧ (i ≤ V.length) ∧ (∀ j, j < i → badV V j = 0)) _ ⟨0, rfl, n59.ok, G51, e61, e62, e63, (n59.ne rfl (n58.ne rfl n57.at_)), (n59.ne rfl n58.at_), n59.at_, B52, (by rw [gv_zero]; exact u50b), by omega, fun j h => by omega⟩ ?_
      rintro m64 aI60 w66 ⟨i, hmI60, okI60, GI60, s1I60, s2I60, s3I60, s22I60, s23I60, s24I60, kb3I60, kb42I60, hiI60, hbI60⟩ KI60 hKI60
      refine wp_seq_k (fun K67 hK67 => ?_)
      refine wp_region_lit ?_
      refine sv okI60 rfl (wn _ rfl) rfl (o_ltI s24I60 s23I60) (fun an68 n68 => ?_)
      refine wpList_nil ?_
      refine th_n (hK67 _ _ ?_)
      refine wp_seq_k (fun K69 hK69 => ?_)
      by_cases c70 : (i : Int) < ((V.length : Nat) : Int)
      · refine wp_cond_true ((n68.at_).trans (congrArg Value.bool (decide_eq_true c70))) ?_
        refine wp_skip ?_
        refine th_n (hK69 _ _ ?_)
        refine wp_seq_k (fun K71 hK71 => ?_)
        refine wp_block ?_
        refine wp_seq_k (fun K72 hK72 => ?_)
        refine wp_region_lit ?_
        refine sv n68.ok rfl (wn _ rfl) rfl (o_mv (n68.ne rfl s24I60)) (fun an73 n73 => ?_)
        have h74l : i < List.length V := by omega
        obtain ⟨bh74, fh74, h74a, h74b, h74c⟩ := hv (ne_nil_of_lt h74l)
        obtain ⟨xh74, h74x⟩ : ∃ x, V[i]? = some x := ⟨_, List.getElem?_eq_getElem h74l⟩
        refine sv n73.ok rfl (wn _ rfl) rfl (o_iaV (i := i) (s := 1) h74a (n73.ne rfl (n68.ne rfl s22I60)) (n73.ne rfl (n68.ne rfl s24I60)) Try.underlying32 (by kernel_rfl) h74l) (fun an75 n75 => ?_)
        refine sv n75.ok rfl (wn _ rfl) rfl (o_ld n75.at_ (Try.isAgg3 _) ((Below.cell GI60 h74b).trans (h74c _ _ h74x))) (fun an76 n76 => ?_)
        refine sv n76.ok rfl (wn _ rfl) rfl (o_as (n76.ne rfl (n75.ne rfl n73.at_))) (fun an77 n77 => ?_)
        refine sv n77.ok rfl (wn _ rfl) rfl (o_as (n77.ne rfl n76.at_)) (fun an78 n78 => ?_)
        refine wpList_nil ?_
        refine th_n (hK72 _ _ ?_)
        refine wp_seq_k (fun K79 hK79 => ?_)
        refine wp_seq_k (fun K80 hK80 => ?_)
        refine wp_region_lit ?_
        refine sv n78.ok rfl (wn _ rfl) rfl (o_mv n78.at_) (fun an81 n81 => ?_)
        refine sc n81.ok rfl (wn _ rfl) rfl (o_f3 Try.func44 rfl rfl rfl n81.at_ ev_const ev_const) (rwithin_p _ _ _ w66) ?_
        rintro _ w83 ⟨rfl, g84⟩
        refine ⟨_, rfl, fun an82 n82 => ?_⟩
        have G85 := GI60.trans g84
        have B86 := kb3I60.gr g84
        have B87 := kb42I60.gr g84
        refine sv n82.ok rfl (wn _ rfl) rfl (o_notD n82.at_) (fun an88 n88 => ?_)
        refine wpList_nil ?_
        refine th_n (hK80 _ _ ?_)
        by_cases c89 : ¬ ((0 : Int) ≤ xh74 ∧ xh74 ≤ 1000)
        · refine wp_cond_true ((n88.at_).trans (congrArg Value.bool (decide_eq_true c89))) ?_
          refine wp_seq_k (fun K90 hK90 => ?_)
          refine wp_region_lit ?_
          refine sv n88.ok rfl (wn _ rfl) rfl (o_as ev_const) (fun an91 n91 => ?_)
          refine wpList_nil ?_
          refine th_n (hK90 _ _ ?_)
          refine wp_ret ?_
          refine th_r ?_
          refine ib_r ?_
          refine th_r ?_
          refine th_r ?_
          refine ib_r ?_
          refine th_r ?_
          have hbad := c89
          exact ret1 n91.ok rfl (n91.at_) ⟨by rw [chk_vec hl hbI60 (by omega) (badV_bad h74x hbad)], G85⟩
        · refine wp_cond_false ((n88.at_).trans (congrArg Value.bool (decide_eq_false c89))) ?_
          refine wp_skip ?_
          refine th_n (hK79 _ _ ?_)
          refine wp_region_lit ?_
          have e92 := n88.ne rfl (n82.ne rfl (n81.ne rfl (n78.ne rfl n77.at_)))
          refine sv n88.ok rfl (wn _ rfl) rfl (o_mv e92) (fun an93 n93 => ?_)
          have e94 := n93.ne rfl (n88.ne rfl (n82.ne rfl (n81.ne rfl n78.at_)))
          refine sv n93.ok rfl (wn _ rfl) rfl (o_mv e94) (fun an95 n95 => ?_)
          have e96 := n95.ne rfl (n93.ne rfl (n88.ne rfl (n82.ne rfl (n81.ne rfl (n78.ne rfl (n77.ne rfl (n76.ne rfl (n75.ne rfl (n73.ne rfl (n68.ne rfl s3I60))))))))))
          refine sv n95.ok rfl (wn _ rfl) rfl (o_iaA (i := i) (s := 1) e96 (n95.ne rfl n93.at_) Try.underlying61 (by kernel_rfl) (by omega)) (fun an97 n97 => ?_)
          refine ssC rfl (wn _ rfl) (o_st n97.at_ (n97.ne rfl n95.at_) B87 (by rw [show 0 + (i) * 1 = i by omega]; exact a5_at _ _ (by omega)) (by kernel_rfl) rfl) B87 (fun w98 u99 u99b => ?_)
          have G100 : Gr w w98 := Below.upd G85 l46 u99
          have B101 := B86.upd u99 (Nat.ne_of_lt l45)
          have B102 : Bk w98 b42 (a5 (u5 (gv V i) i xh74)) 61 := (by have h := u99b; rw [show 0 + i * 1 = i by omega, a5_set _ _ _ (by omega)] at h; exact h)
          refine wpList_nil ?_
          refine ib_n ?_
          refine th_n (hK71 _ _ ?_)
          refine wp_region_lit ?_
          have e103 := n97.ne rfl (n95.ne rfl (n93.ne rfl (n88.ne rfl (n82.ne rfl (n81.ne rfl (n78.ne rfl (n77.ne rfl (n76.ne rfl (n75.ne rfl (n73.ne rfl (n68.ne rfl s24I60)))))))))))
          refine sv n97.ok rfl (wn _ rfl) rfl (o_add (r := ((i + 1 : Nat) : Int)) e103 ev_const (by omega) (by omega)) (fun an104 n104 => ?_)
          refine sv n104.ok rfl (wn _ rfl) rfl (o_mv n104.at_) (fun an105 n105 => ?_)
          refine wpList_nil ?_
          have e106 := n105.ne rfl (n104.ne rfl (n97.ne rfl (n95.ne rfl (n93.ne rfl (n88.ne rfl (n82.ne rfl (n81.ne rfl (n78.ne rfl (n77.ne rfl (n76.ne rfl (n75.ne rfl (n73.ne rfl (n68.ne rfl s1I60)))))))))))))
          have e107 := n105.ne rfl (n104.ne rfl (n97.ne rfl (n95.ne rfl (n93.ne rfl (n88.ne rfl (n82.ne rfl (n81.ne rfl (n78.ne rfl (n77.ne rfl (n76.ne rfl (n75.ne rfl (n73.ne rfl (n68.ne rfl s2I60)))))))))))))
          have e108 := n105.ne rfl (n104.ne rfl (n97.ne rfl e96))
          have e109 := n105.ne rfl (n104.ne rfl (n97.ne rfl (n95.ne rfl (n93.ne rfl (n88.ne rfl (n82.ne rfl (n81.ne rfl (n78.ne rfl (n77.ne rfl (n76.ne rfl (n75.ne rfl (n73.ne rfl (n68.ne rfl s22I60)))))))))))))
          have e110 := n105.ne rfl (n104.ne rfl (n97.ne rfl (n95.ne rfl (n93.ne rfl (n88.ne rfl (n82.ne rfl (n81.ne rfl (n78.ne rfl (n77.ne rfl (n76.ne rfl (n75.ne rfl (n73.ne rfl (n68.ne rfl s23I60)))))))))))))
          exact th_n (hKI60 _ _ _ (by omega) ⟨i + 1, rfl, n105.ok, G100, e106, e107, e108, e109, e110, n105.at_, B101, (by rw [← gv_next h74x]; exact B102), by omega, all_up hbI60 (badV_ok h74x (by omega))⟩)
      · refine wp_cond_false ((n68.at_).trans (congrArg Value.bool (decide_eq_false c70))) ?_
        have hbA : ∀ j, j < V.length → badV V j = 0 := fun j hj => hbI60 j (by omega)
        refine wp_exit ?_
        refine th_x ?_
        refine th_x ?_
        refine ib_x ?_
        refine th_n (hK53 _ _ ?_)
        refine wp_seq_k (fun K111 hK111 => ?_)
        refine wp_seq_k (fun K112 hK112 => ?_)
        refine wp_region_lit ?_
        refine sv n68.ok rfl (wn _ rfl) rfl (o_fa (z := 1) (n68.ne rfl s1I60) Try.underlying35 rfl (by kernel_rfl) rfl rfl) (fun an113 n113 => ?_)
        refine sv n113.ok rfl (wn _ rfl) rfl (o_ld n113.at_ (Try.isAgg32 _) (kb3I60.cell _ rfl)) (fun an114 n114 => ?_)
        refine sv n114.ok rfl (wn _ rfl) rfl (o_len n114.at_ Try.underlying32) (fun an115 n115 => ?_)
        refine sv n115.ok rfl (wn _ rfl) rfl (o_as n115.at_) (fun an116 n116 => ?_)
        refine wpList_nil ?_
        refine th_n (hK112 _ _ ?_)
        refine wp_seq_k (fun K117 hK117 => ?_)
        refine wp_region_lit ?_
        refine sv n116.ok rfl (wn _ rfl) rfl (o_mv n116.at_) (fun an118 n118 => ?_)
        refine sv n118.ok rfl (wn _ rfl) rfl (o_gtI n118.at_ ev_const) (fun an119 n119 => ?_)
        refine sv n119.ok rfl (wn _ rfl) rfl (o_mv n119.at_) (fun an120 n120 => ?_)
        by_cases c121 : (0 : Int) < ((V.length : Nat) : Int)
        · have e122 := (n120.at_).trans (congrArg Value.bool (decide_eq_true c121))
          have e123 := ((n120.ne rfl n119.at_)).trans (congrArg Value.bool (decide_eq_true c121))
          have e124 := n120.ne rfl (n119.ne rfl (n118.ne rfl (n116.ne rfl (n115.ne rfl (n114.ne rfl (n113.ne rfl (n68.ne rfl s1I60)))))))
          refine sv n120.ok rfl (wgT rfl (yl 2 true rfl e122) rfl) rfl (o_fa (z := 1) e124 Try.underlying35 rfl (by kernel_rfl) rfl rfl) (fun an125 n125 => ?_)
          refine sv n125.ok rfl (wgT rfl (yl 2 true rfl (n125.ne rfl e122)) rfl) rfl (o_ld n125.at_ (Try.isAgg32 _) (kb3I60.cell _ rfl)) (fun an126 n126 => ?_)
          have e127 := n126.ne rfl (n125.ne rfl (n120.ne rfl (n119.ne rfl (n118.ne rfl n116.at_))))
          refine sv n126.ok rfl (wgT rfl (yl 2 true rfl (n126.ne rfl (n125.ne rfl e122))) rfl) rfl (o_mv e127) (fun an128 n128 => ?_)
          have e129 := n128.ne rfl (n126.ne rfl (n125.ne rfl e122))
          refine sv n128.ok rfl (wgT rfl (yl 2 true rfl e129) rfl) rfl (o_sub (r := ((V.length - 1 : Nat) : Int)) n128.at_ ev_const (by omega) (by omega)) (fun an130 n130 => ?_)
          have h131l : V.length - 1 < List.length V := by omega
          obtain ⟨bh131, fh131, h131a, h131b, h131c⟩ := hv (ne_nil_of_lt h131l)
          obtain ⟨xh131, h131x⟩ : ∃ x, V[V.length - 1]? = some x := ⟨_, List.getElem?_eq_getElem h131l⟩
          refine sv n130.ok rfl (wgT rfl (yl 2 true rfl (n130.ne rfl e129)) rfl) rfl (o_iaV (i := V.length - 1) (s := 1) h131a (n130.ne rfl (n128.ne rfl n126.at_)) n130.at_ Try.underlying32 (by kernel_rfl) h131l) (fun an132 n132 => ?_)
          refine sv n132.ok rfl (wgT rfl (yl 2 true rfl (n132.ne rfl (n130.ne rfl e129))) rfl) rfl (o_ld n132.at_ (Try.isAgg3 _) ((Below.cell GI60 h131b).trans (h131c _ _ h131x))) (fun an133 n133 => ?_)
          have e134 := n133.ne rfl (n132.ne rfl (n130.ne rfl e129))
          refine sv n133.ok rfl (wgT rfl (yl 2 true rfl e134) rfl) rfl (o_eqI n133.at_ ev_const) (fun an135 n135 => ?_)
          refine sv n135.ok rfl (wn _ rfl) rfl (o_pkT (n135.ne rfl e134) n135.at_) (fun an136 n136 => ?_)
          refine wpList_nil ?_
          refine th_n (hK117 _ _ ?_)
          by_cases c137 : xh131 = 0
          · refine wp_cond_true ((n136.at_).trans (congrArg Value.bool (decide_eq_true c137))) ?_
            refine wp_seq_k (fun K138 hK138 => ?_)
            refine wp_region_lit ?_
            refine sv n136.ok rfl (wn _ rfl) rfl (o_as ev_const) (fun an139 n139 => ?_)
            refine wpList_nil ?_
            refine th_n (hK138 _ _ ?_)
            refine wp_ret ?_
            refine th_r ?_
            have hz0 : V[V.length - 1]? = some 0 := by
              have q : xh131 = 0 := by omega
              rw [← q]; exact h131x
            exact ret1 n139.ok rfl (n139.at_) ⟨by rw [chk_last hl hbA (by omega) hz0], GI60⟩
          · refine wp_cond_false ((n136.at_).trans (congrArg Value.bool (decide_eq_false c137))) ?_
            refine wp_skip ?_
            refine th_n (hK111 _ _ ?_)
            refine wp_seq_k (fun K140 hK140 => ?_)
            refine wp_region_lit ?_
            refine sv n136.ok rfl (wn _ rfl) rfl (o_bd (cells := #[.int .i64 (-1), .int .i64 0]) (vs := [(0, .int .i64 (-1))]) (by simp [ev_const]) (by kernel_rfl)) (fun an141 n141 => ?_)
            refine sal (cs := #[.int .i64 0, .int .i64 0]) n141.ok rfl (wn _ rfl) rfl (o_al (z := .agg #[.int .i64 0, .int .i64 0]) (by kernel_rfl)) (fun an142 w144 b143 W145 n142 => ?_)
            have l146 : b3 < b143 := by rw [W145.eq]; exact kb3I60.lt
            have l147 : b42 < b143 := by rw [W145.eq]; exact kb42I60.lt
            have l148 : w.heap.size ≤ b143 := by rw [W145.eq]; exact GI60.size
            have G149 := GI60.trans W145.gr
            have B150 := kb3I60.gr W145.gr
            have B151 := kb42I60.gr W145.gr
            refine ssR rfl (wn _ rfl) (o_stR n142.at_ (n142.ne rfl n141.at_) W145.bk (by kernel_rfl) rfl (by simp [Value.oneCell'])) W145.bk (fun w152 u153 u153b => ?_)
            have G154 : Gr w w152 := Below.upd G149 l148 u153
            have B155 := B150.upd u153 (Nat.ne_of_lt l146)
            have B156 := B151.upd u153 (Nat.ne_of_lt l147)
            refine wpList_nil ?_
            refine th_n (hK140 _ _ ?_)
            refine wp_seq_k (fun K157 hK157 => ?_)
            refine wp_seq_k (fun K158 hK158 => ?_)
            refine wp_region_lit ?_
            have e159 := n142.ne rfl (n141.ne rfl (n136.ne rfl (n135.ne rfl (n133.ne rfl (n132.ne rfl (n130.ne rfl (n128.ne rfl (n126.ne rfl (n125.ne rfl e124)))))))))
            refine sv n142.ok rfl (wn _ rfl) rfl (o_fa (z := 1) e159 Try.underlying35 rfl (by kernel_rfl) rfl rfl) (fun an160 n160 => ?_)
            refine sv n160.ok rfl (wn _ rfl) rfl (o_ld n160.at_ (Try.isAgg33 _) (B155.cell _ rfl)) (fun an161 n161 => ?_)
            refine sv n161.ok rfl (wn _ rfl) rfl (o_len n161.at_ Try.underlying33) (fun an162 n162 => ?_)
            refine sv n162.ok rfl (wn _ rfl) rfl (o_mv ev_const) (fun an163 n163 => ?_)
            refine wpList_nil ?_
            refine th_n (hK158 _ _ ?_)
            refine wp_block ?_
            have hcv := chkV_ok hbA (.inr ⟨xh131, h131x, by omega⟩)
            have e165 := n163.ne rfl (n162.ne rfl (n161.ne rfl (n160.ne rfl (n142.ne rfl (n141.ne rfl (n136.ne rfl (n135.ne rfl (n133.ne rfl (n132.ne rfl (n130.ne rfl (n128.ne rfl (n126.ne rfl (n125.ne rfl (n120.ne rfl (n119.ne rfl (n118.ne rfl (n116.ne rfl (n115.ne rfl (n114.ne rfl (n113.ne rfl (n68.ne rfl s2I60)))))))))))))))))))))
            have e166 := n163.ne rfl (n162.ne rfl (n161.ne rfl (n160.ne rfl (n142.ne rfl (n141.ne rfl (n136.ne rfl (n135.ne rfl (n133.ne rfl (n132.ne rfl (n130.ne rfl (n128.ne rfl (n126.ne rfl (n125.ne rfl (n120.ne rfl (n119.ne rfl (n118.ne rfl (n116.ne rfl (n115.ne rfl (n114.ne rfl (n113.ne rfl (n68.ne rfl s3I60)))))))))))))))))))))
            have e167 := n163.ne rfl (n162.ne rfl (n161.ne rfl (n160.ne rfl n142.at_)))
            refine lp (fun (nL : Nat) (aL : Act) (wL : World) => ∃ k : Nat, ∃ la : Int, ∃ lb : Int, nL = M.length - k ∧ Ok 92 aL ∧ Gr w wL ∧ (aL.eval (.tmp 2) = .int .i64 0) ∧ (aL.eval (.tmp 3) = .pointer (some ⟨b42, 0, none⟩)) ∧ (aL.eval (.tmp 7) = .pointer (some ⟨b143, 0, none⟩)) ∧ (aL.eval (.tmp 52) = .slice ma M.length mc) ∧ (aL.eval (.tmp 53) = .int .i64 ((M.length : Nat) : Int)) ∧ (aL.eval (.tmp 54) = .int .i64 (k : Int)) ∧ (Bk wL b42 (a5 (gv V i)) 61) ∧ (Bk wL b143 #[.int .i64 (la), .int .i64 (lb)] 26) ∧ (k ≤ M.length) ∧ (∀ j, j < k → badM (natsI V) M j = 0) ∧ (lastD M k la lb)) _ ⟨0, (-1), 0, rfl, n163.ok, G154, e165, e166, e167, (n163.ne rfl (n162.ne rfl n161.at_)), (n163.ne rfl n162.at_), n163.at_, B156, u153b, by omega, fun j h => by omega, .inl ⟨rfl, rfl, rfl⟩⟩ ?_
            rintro m168 aI164 w170 ⟨k, la, lb, hmI164, okI164, GI164, s2I164, s3I164, s7I164, s52I164, s53I164, s54I164, kb42I164, kb143I164, hkI164, hbI164, hlaI164⟩ KI164 hKI164
            refine wp_seq_k (fun K171 hK171 => ?_)
            refine wp_region_lit ?_
            refine sv okI164 rfl (wn _ rfl) rfl (o_ltI s54I164 s53I164) (fun an172 n172 => ?_)
            refine wpList_nil ?_
            refine th_n (hK171 _ _ ?_)
            refine wp_seq_k (fun K173 hK173 => ?_)
            by_cases c174 : (k : Int) < ((M.length : Nat) : Int)
            · refine wp_cond_true ((n172.at_).trans (congrArg Value.bool (decide_eq_true c174))) ?_
              refine wp_skip ?_
              refine th_n (hK173 _ _ ?_)
              refine wp_seq_k (fun K175 hK175 => ?_)
              refine wp_block ?_
              refine wp_seq_k (fun K176 hK176 => ?_)
              refine wp_region_lit ?_
              have h177l : k < List.length M := by omega
              obtain ⟨bh177, fh177, h177a, h177b, h177c⟩ := hm (ne_nil_of_lt h177l)
              obtain ⟨⟨xh177, yh177⟩, h177x⟩ : ∃ x, M[k]? = some x := ⟨_, List.getElem?_eq_getElem h177l⟩
              refine sv n172.ok rfl (wn _ rfl) rfl (o_iaV (i := k) (s := 2) h177a (n172.ne rfl s52I164) (n172.ne rfl s54I164) Try.underlying33 (by kernel_rfl) h177l) (fun an178 n178 => ?_)
              refine sv n178.ok rfl (wn _ rfl) rfl (o_ldA (k := fh177 + k * 2) n178.at_ (cells_to (fun j => Below.cell GI164 h177b) (two_cells (h177c _ _ h177x).1 (h177c _ _ h177x).2)) Try.underlying26 rfl (by kernel_rfl)) (fun an179 n179 => ?_)
              refine sal (cs := #[.int .i64 0, .int .i64 0]) n179.ok rfl (wn _ rfl) rfl (o_al (z := .agg #[.int .i64 0, .int .i64 0]) (by kernel_rfl)) (fun an180 w182 b181 W183 n180 => ?_)
              have l184 : b42 < b181 := by rw [W183.eq]; exact kb42I164.lt
              have l185 : b143 < b181 := by rw [W183.eq]; exact kb143I164.lt
              have l186 : w.heap.size ≤ b181 := by rw [W183.eq]; exact GI164.size
              have G187 := GI164.trans W183.gr
              have B188 := kb42I164.gr W183.gr
              have B189 := kb143I164.gr W183.gr
              refine ssR rfl (wn _ rfl) (o_stR n180.at_ (n180.ne rfl n179.at_) W183.bk (by kernel_rfl) rfl (by simp [Value.oneCell'])) W183.bk (fun w190 u191 u191b => ?_)
              have G192 : Gr w w190 := Below.upd G187 l186 u191
              have B193 := B188.upd u191 (Nat.ne_of_lt l184)
              have B194 := B189.upd u191 (Nat.ne_of_lt l185)
              refine wpList_nil ?_
              refine th_n (hK176 _ _ ?_)
              refine wp_seq_k (fun K195 hK195 => ?_)
              refine wp_seq_k (fun K196 hK196 => ?_)
              refine wp_region_lit ?_
              refine sv n180.ok rfl (wn _ rfl) rfl (o_ldR n180.at_ u191b Try.underlying26 rfl (by kernel_rfl)) (fun an197 n197 => ?_)
              refine sc n197.ok rfl (wn _ rfl) rfl (o_f1 Try.func11 rfl rfl rfl n197.at_) (rdot_p _ _ w190) ?_
              rintro _ w199 ⟨rfl, g200⟩
              refine ⟨_, rfl, fun an198 n198 => ?_⟩
              have G201 := G192.trans g200
              have B202 := B193.gr g200
              have B203 := B194.gr g200
              have B204 := u191b.gr g200
              refine sv n198.ok rfl (wn _ rfl) rfl (o_notD n198.at_) (fun an205 n205 => ?_)
              refine wpList_nil ?_
              refine th_n (hK196 _ _ ?_)
              by_cases c206 : ¬ (dotB (xh177, yh177) = true)
              · refine wp_cond_true ((n205.at_).trans (congrArg Value.bool (decide_eq_true c206))) ?_
                refine wp_seq_k (fun K207 hK207 => ?_)
                refine wp_region_lit ?_
                refine sv n205.ok rfl (wn _ rfl) rfl (o_as ev_const) (fun an208 n208 => ?_)
                refine wpList_nil ?_
                refine th_n (hK207 _ _ ?_)
                refine wp_ret ?_
                refine th_r ?_
                refine ib_r ?_
                refine th_r ?_
                refine th_r ?_
                refine ib_r ?_
                refine th_r ?_
                have hnd : ¬ dotB (xh177, yh177) = true := c206
                exact ret1 n208.ok rfl (n208.at_) ⟨by rw [chk_dot hl hcv hbI164 (by omega) (badM_dot h177x (by simpa using hnd)) (by omega)], G201⟩
              · refine wp_cond_false ((n205.at_).trans (congrArg Value.bool (decide_eq_false c206))) ?_
                have hdB : dotB (xh177, yh177) = true := Classical.not_not.1 c206
                obtain ⟨hd1, hd2, hd3, hd4⟩ := (dotB_iff _).1 hdB
                simp only at hd1 hd2 hd3 hd4
                obtain ⟨nh177, hnh177⟩ : ∃ n : Nat, xh177 = (n : Int) := ⟨xh177.toNat, by omega⟩
                subst hnh177
                have hg := gv_cv hbA nh177 (i := i) (by omega)
                have hgl := gv_le hbA i nh177
                refine wp_skip ?_
                refine th_n (hK195 _ _ ?_)
                refine wp_seq_k (fun K209 hK209 => ?_)
                refine wp_seq_k (fun K210 hK210 => ?_)
                refine h_start [] 29 #[false, false, false, false, false, false, false, false, false, false, false, false, false, false, false, false, false, false, false, false, false, false, false, false, false, false, false, false, false] (by kernel_rfl) rfl rfl ?_
                have S211 := Sx.drew [] w199
                have g212 := (Gr.refl w199).drew
                generalize w199.drew = w213 at *
                have G214 := G201.trans g212
                have B215 := B202.gr g212
                have B216 := B203.gr g212
                have B217 := B204.gr g212
                have e218 := n205.ne rfl (n198.ne rfl (n197.ne rfl n180.at_))
                refine h_take (i := 0) (fuel := 28) n205.ok rfl rfl rfl (by kernel_rfl) (by kernel_rfl) (by kernel_rfl) (fun _ _ _ _ _ h => h) (wn _ rfl) (fun x hx => o_fa (z := 1) e218 Try.underlying26 rfl (by kernel_rfl) rfl rfl) S211 (fun an219 n219 => ?_)
                refine h_take (i := 1) (fuel := 27) n219.ok rfl rfl rfl (by kernel_rfl) (by kernel_rfl) (by kernel_rfl) (fun _ _ _ _ _ h => h) (wn _ rfl) (fun x hx => o_ld n219.at_ (Try.isAgg3 _) ((Sx.bk hx B204 (by simp <;> omega)).cell _ rfl)) S211 (fun an220 n220 => ?_)
                refine h_take (i := 2) (fuel := 26) n220.ok rfl rfl rfl (by kernel_rfl) (by kernel_rfl) (by kernel_rfl) (fun _ _ _ _ _ h => h) (wn _ rfl) (fun x hx => o_fa (z := 1) (n220.ne rfl (n219.ne rfl e218)) Try.underlying26 rfl (by kernel_rfl) rfl rfl) S211 (fun an221 n221 => ?_)
                refine h_take (i := 3) (fuel := 25) n221.ok rfl rfl rfl (by kernel_rfl) (by kernel_rfl) (by kernel_rfl) (fun _ _ _ _ _ h => h) (wn _ rfl) (fun x hx => o_ld n221.at_ (Try.isAgg3 _) ((Sx.bk hx B204 (by simp <;> omega)).cell _ rfl)) S211 (fun an222 n222 => ?_)
                have e223 := n222.ne rfl (n221.ne rfl (n220.ne rfl (n219.ne rfl (n205.ne rfl (n198.ne rfl (n197.ne rfl (n180.ne rfl (n179.ne rfl (n178.ne rfl (n172.ne rfl s3I164))))))))))
                refine h_take (i := 4) (fuel := 24) n222.ok rfl rfl rfl (by kernel_rfl) (by kernel_rfl) (by kernel_rfl) (fun _ _ _ _ _ h => h) (wn _ rfl) (fun x hx => o_iaA (i := nh177) (s := 1) e223 n222.at_ Try.underlying61 (by kernel_rfl) (by omega)) S211 (fun an224 n224 => ?_)
                refine h_take (i := 5) (fuel := 23) n224.ok rfl rfl rfl (by kernel_rfl) (by kernel_rfl) (by kernel_rfl) (fun _ _ _ _ _ h => h) (wn _ rfl) (fun x hx => o_ld n224.at_ (Try.isAgg3 _) ((Sx.bk hx B202 (by simp <;> omega)).cell _ (by rw [show 0 + (nh177) * 1 = nh177 by omega]; exact a5_at _ _ (by omega)))) S211 (fun an225 n225 => ?_)
                refine h_take (i := 6) (fuel := 22) n225.ok rfl rfl rfl (by kernel_rfl) (by kernel_rfl) (by kernel_rfl) (fun _ _ _ _ _ h => h) (wn _ rfl) (fun x hx => o_add n225.at_ ev_const rfl (by omega)) S211 (fun an226 n226 => ?_)
                have e227 := n226.ne rfl (n225.ne rfl (n224.ne rfl (n222.ne rfl (n221.ne rfl n220.at_))))
                refine h_take (i := 7) (fuel := 21) n226.ok rfl rfl rfl (by kernel_rfl) (by kernel_rfl) (by kernel_rfl) (fun _ _ _ _ _ h => h) (wn _ rfl) (fun x hx => o_ltI e227 n226.at_) S211 (fun an228 n228 => ?_)
                refine h_take (i := 8) (fuel := 20) n228.ok rfl rfl rfl (by kernel_rfl) (by kernel_rfl) (by kernel_rfl) (fun _ _ _ _ _ h => h) (wn _ rfl) (fun x hx => o_mv n228.at_) S211 (fun an229 n229 => ?_)
                by_cases c230 : yh177 < (((gv V i) (nh177)) + 2)
                · have e231 := (n229.at_).trans (congrArg Value.bool (decide_eq_true c230))
                  have e232 := ((n229.ne rfl n228.at_)).trans (congrArg Value.bool (decide_eq_true c230))
                  refine h_not (i := 9) (fuel := 19) n229.ok rfl rfl rfl (by kernel_rfl) (by kernel_rfl) (by kernel_rfl) (fun _ _ _ _ _ h => h) (wgF rfl (yl 8 true rfl e231) rfl) S211 (fun an233 n233 => ?_)
                  refine h_not (i := 10) (fuel := 18) n233.ok rfl rfl rfl (by kernel_rfl) (by kernel_rfl) (by kernel_rfl) (fun _ _ _ _ _ h => h) (wgF rfl (yl 8 true rfl (n233.ne rfl e231)) rfl) S211 (fun an234 n234 => ?_)
                  refine h_not (i := 11) (fuel := 17) n234.ok rfl rfl rfl (by kernel_rfl) (by kernel_rfl) (by kernel_rfl) (fun _ _ _ _ _ h => h) (wgF rfl (yl 8 true rfl (n234.ne rfl (n233.ne rfl e231))) rfl) S211 (fun an235 n235 => ?_)
                  have e236 := n235.ne rfl (n234.ne rfl (n233.ne rfl e231))
                  refine h_not (i := 12) (fuel := 16) n235.ok rfl rfl rfl (by kernel_rfl) (by kernel_rfl) (by kernel_rfl) (fun _ _ _ _ _ h => h) (wgF rfl (yl 8 true rfl e236) rfl) S211 (fun an237 n237 => ?_)
                  refine h_not (i := 13) (fuel := 15) n237.ok rfl rfl rfl (by kernel_rfl) (by kernel_rfl) (by kernel_rfl) (fun _ _ _ _ _ h => h) (wgF rfl (yl 8 true rfl (n237.ne rfl e236)) rfl) S211 (fun an238 n238 => ?_)
                  refine h_take (i := 14) (fuel := 14) n238.ok rfl rfl rfl (by kernel_rfl) (by kernel_rfl) (by kernel_rfl) (fun _ _ _ _ _ h => h) (wn _ rfl) (fun x hx => o_pkT (n238.ne rfl (n237.ne rfl e236)) ev_const) S211 (fun an239 n239 => ?_)
                  refine h_take (i := 15) (fuel := 13) n239.ok rfl rfl rfl (by kernel_rfl) (by kernel_rfl) (by kernel_rfl) (fun _ _ _ _ _ h => h) (wn _ rfl) (fun x hx => o_mv n239.at_) S211 (fun an240 n240 => ?_)
                  refine h_not (i := 16) (fuel := 12) n240.ok rfl rfl rfl (by kernel_rfl) (by kernel_rfl) (by kernel_rfl) (fun _ _ _ _ _ h => h) (wgF rfl (yl 15 true rfl n240.at_) rfl) S211 (fun an241 n241 => ?_)
                  refine h_not (i := 17) (fuel := 11) n241.ok rfl rfl rfl (by kernel_rfl) (by kernel_rfl) (by kernel_rfl) (fun _ _ _ _ _ h => h) (wgF rfl (yl 15 true rfl (n241.ne rfl n240.at_)) rfl) S211 (fun an242 n242 => ?_)
                  refine h_not (i := 18) (fuel := 10) n242.ok rfl rfl rfl (by kernel_rfl) (by kernel_rfl) (by kernel_rfl) (fun _ _ _ _ _ h => h) (wgF rfl (yl 15 true rfl (n242.ne rfl (n241.ne rfl n240.at_))) rfl) S211 (fun an243 n243 => ?_)
                  have e244 := n243.ne rfl (n242.ne rfl (n241.ne rfl n240.at_))
                  refine h_not (i := 19) (fuel := 9) n243.ok rfl rfl rfl (by kernel_rfl) (by kernel_rfl) (by kernel_rfl) (fun _ _ _ _ _ h => h) (wgF rfl (yl 15 true rfl e244) rfl) S211 (fun an245 n245 => ?_)
                  refine h_not (i := 20) (fuel := 8) n245.ok rfl rfl rfl (by kernel_rfl) (by kernel_rfl) (by kernel_rfl) (fun _ _ _ _ _ h => h) (wgF rfl (yl 15 true rfl (n245.ne rfl e244)) rfl) S211 (fun an246 n246 => ?_)
                  refine h_not (i := 21) (fuel := 7) n246.ok rfl rfl rfl (by kernel_rfl) (by kernel_rfl) (by kernel_rfl) (fun _ _ _ _ _ h => h) (wgF rfl (yl 15 true rfl (n246.ne rfl (n245.ne rfl e244))) rfl) S211 (fun an247 n247 => ?_)
                  refine h_not (i := 22) (fuel := 6) n247.ok rfl rfl rfl (by kernel_rfl) (by kernel_rfl) (by kernel_rfl) (fun _ _ _ _ _ h => h) (wgU rfl (yu 21 rfl n247.at_)) S211 (fun an248 n248 => ?_)
                  refine h_not (i := 23) (fuel := 5) n248.ok rfl rfl rfl (by kernel_rfl) (by kernel_rfl) (by kernel_rfl) (fun _ _ _ _ _ h => h) (wgU rfl (yu 21 rfl (n248.ne rfl n247.at_))) S211 (fun an249 n249 => ?_)
                  refine h_not (i := 24) (fuel := 4) n249.ok rfl rfl rfl (by kernel_rfl) (by kernel_rfl) (by kernel_rfl) (fun _ _ _ _ _ h => h) (wgU rfl (yu 21 rfl (n249.ne rfl (n248.ne rfl n247.at_)))) S211 (fun an250 n250 => ?_)
                  have e251 := n250.ne rfl (n249.ne rfl (n248.ne rfl n247.at_))
                  refine h_not (i := 25) (fuel := 3) n250.ok rfl rfl rfl (by kernel_rfl) (by kernel_rfl) (by kernel_rfl) (fun _ _ _ _ _ h => h) (wgU rfl (yu 21 rfl e251)) S211 (fun an252 n252 => ?_)
                  refine h_not (i := 26) (fuel := 2) n252.ok rfl rfl rfl (by kernel_rfl) (by kernel_rfl) (by kernel_rfl) (fun _ _ _ _ _ h => h) (wgU rfl (yu 21 rfl (n252.ne rfl e251))) S211 (fun an253 n253 => ?_)
                  have e254 := n253.ne rfl (n252.ne rfl (n250.ne rfl (n249.ne rfl (n248.ne rfl (n247.ne rfl (n246.ne rfl (n245.ne rfl e244)))))))
                  refine h_not (i := 27) (fuel := 1) n253.ok rfl rfl rfl (by kernel_rfl) (by kernel_rfl) (by kernel_rfl) (fun _ _ _ _ _ h => h) (wgF rfl (yl 15 true rfl e254) rfl) S211 (fun an255 n255 => ?_)
                  refine h_take (i := 28) (fuel := 0) n255.ok rfl rfl rfl (by kernel_rfl) (by kernel_rfl) (by kernel_rfl) (fun _ _ _ _ _ h => h) (wn _ rfl) (fun x hx => o_pkT (n255.ne rfl e254) ev_const) S211 (fun an256 n256 => ?_)
                  refine wpAnyH_done (by kernel_rfl) ?_ _
                  refine th_n (hK210 _ _ ?_)
                  refine wp_cond_true (n256.at_) ?_
                  refine wp_seq_k (fun K257 hK257 => ?_)
                  refine wp_region_lit ?_
                  refine sv n256.ok rfl (wn _ rfl) rfl (o_as ev_const) (fun an258 n258 => ?_)
                  refine wpList_nil ?_
                  refine th_n (hK257 _ _ ?_)
                  refine wp_ret ?_
                  refine th_r ?_
                  refine ib_r ?_
                  refine th_r ?_
                  refine th_r ?_
                  refine ib_r ?_
                  refine th_r ?_
                  have hwhy : yh177 < (cv (natsI V) (nh177 : Int).toNat : Int) + 2 ∨ (0 < k ∧ ¬ ltI (M.getD (k - 1) (0, 0)) ((nh177 : Int), yh177)) := by
                    rw [Int.toNat_natCast, ← hg]
                    by_cases q : yh177 < gv V i nh177 + 2
                    · exact .inl q
                    · exact .inr (lastD_lt hlaI164 (by omega) (by omega))
                  exact ret1 n258.ok rfl (n258.at_) ⟨by rw [chk_dot hl hcv hbI164 (by omega) (badM_form h177x hdB hwhy) (by omega)], G214⟩
                · have e259 := (n229.at_).trans (congrArg Value.bool (decide_eq_false c230))
                  have e260 := ((n229.ne rfl n228.at_)).trans (congrArg Value.bool (decide_eq_false c230))
                  have e261 := n229.ne rfl (n228.ne rfl (n226.ne rfl (n225.ne rfl (n224.ne rfl (n222.ne rfl (n221.ne rfl (n220.ne rfl (n219.ne rfl e218))))))))
                  refine h_take (i := 9) (fuel := 19) n229.ok rfl rfl rfl (by kernel_rfl) (by kernel_rfl) (by kernel_rfl) (fun _ _ _ _ _ h => h) (wgT rfl (yl 8 false rfl e259) rfl) (fun x hx => o_fa (z := 1) e261 Try.underlying26 rfl (by kernel_rfl) rfl rfl) S211 (fun an262 n262 => ?_)
                  refine h_take (i := 10) (fuel := 18) n262.ok rfl rfl rfl (by kernel_rfl) (by kernel_rfl) (by kernel_rfl) (fun _ _ _ _ _ h => h) (wgT rfl (yl 8 false rfl (n262.ne rfl e259)) rfl) (fun x hx => o_ld n262.at_ (Try.isAgg3 _) ((Sx.bk hx B204 (by simp <;> omega)).cell _ rfl)) S211 (fun an263 n263 => ?_)
                  have e264 := n263.ne rfl (n262.ne rfl (n229.ne rfl (n228.ne rfl (n226.ne rfl (n225.ne rfl (n224.ne rfl (n222.ne rfl (n221.ne rfl (n220.ne rfl (n219.ne rfl (n205.ne rfl (n198.ne rfl (n197.ne rfl (n180.ne rfl (n179.ne rfl (n178.ne rfl (n172.ne rfl s7I164)))))))))))))))))
                  refine h_take (i := 11) (fuel := 17) n263.ok rfl rfl rfl (by kernel_rfl) (by kernel_rfl) (by kernel_rfl) (fun _ _ _ _ _ h => h) (wgT rfl (yl 8 false rfl (n263.ne rfl (n262.ne rfl e259))) rfl) (fun x hx => o_fa (z := 1) e264 Try.underlying26 rfl (by kernel_rfl) rfl rfl) S211 (fun an265 n265 => ?_)
                  have e266 := n265.ne rfl (n263.ne rfl (n262.ne rfl e259))
                  refine h_take (i := 12) (fuel := 16) n265.ok rfl rfl rfl (by kernel_rfl) (by kernel_rfl) (by kernel_rfl) (fun _ _ _ _ _ h => h) (wgT rfl (yl 8 false rfl e266) rfl) (fun x hx => o_ld n265.at_ (Try.isAgg3 _) ((Sx.bk hx B203 (by simp <;> omega)).cell _ rfl)) S211 (fun an267 n267 => ?_)
                  refine h_take (i := 13) (fuel := 15) n267.ok rfl rfl rfl (by kernel_rfl) (by kernel_rfl) (by kernel_rfl) (fun _ _ _ _ _ h => h) (wgT rfl (yl 8 false rfl (n267.ne rfl e266)) rfl) (fun x hx => o_ltI (n267.ne rfl (n265.ne rfl n263.at_)) n267.at_) S211 (fun an268 n268 => ?_)
                  refine h_take (i := 14) (fuel := 14) n268.ok rfl rfl rfl (by kernel_rfl) (by kernel_rfl) (by kernel_rfl) (fun _ _ _ _ _ h => h) (wn _ rfl) (fun x hx => o_pkF (n268.ne rfl (n267.ne rfl e266)) n268.at_) S211 (fun an269 n269 => ?_)
                  refine h_take (i := 15) (fuel := 13) n269.ok rfl rfl rfl (by kernel_rfl) (by kernel_rfl) (by kernel_rfl) (fun _ _ _ _ _ h => h) (wn _ rfl) (fun x hx => o_mv n269.at_) S211 (fun an270 n270 => ?_)
                  by_cases c271 : (nh177 : Int) < la
                  · have e272 := (n270.at_).trans (congrArg Value.bool (decide_eq_true c271))
                    have e273 := ((n270.ne rfl (n269.ne rfl n268.at_))).trans (congrArg Value.bool (decide_eq_true c271))
                    have e274 := ((n270.ne rfl n269.at_)).trans (congrArg Value.bool (decide_eq_true c271))
                    refine h_not (i := 16) (fuel := 12) n270.ok rfl rfl rfl (by kernel_rfl) (by kernel_rfl) (by kernel_rfl) (fun _ _ _ _ _ h => h) (wgF rfl (yl 15 true rfl e272) rfl) S211 (fun an275 n275 => ?_)
                    refine h_not (i := 17) (fuel := 11) n275.ok rfl rfl rfl (by kernel_rfl) (by kernel_rfl) (by kernel_rfl) (fun _ _ _ _ _ h => h) (wgF rfl (yl 15 true rfl (n275.ne rfl e272)) rfl) S211 (fun an276 n276 => ?_)
                    refine h_not (i := 18) (fuel := 10) n276.ok rfl rfl rfl (by kernel_rfl) (by kernel_rfl) (by kernel_rfl) (fun _ _ _ _ _ h => h) (wgF rfl (yl 15 true rfl (n276.ne rfl (n275.ne rfl e272))) rfl) S211 (fun an277 n277 => ?_)
                    have e278 := n277.ne rfl (n276.ne rfl (n275.ne rfl e272))
                    refine h_not (i := 19) (fuel := 9) n277.ok rfl rfl rfl (by kernel_rfl) (by kernel_rfl) (by kernel_rfl) (fun _ _ _ _ _ h => h) (wgF rfl (yl 15 true rfl e278) rfl) S211 (fun an279 n279 => ?_)
                    refine h_not (i := 20) (fuel := 8) n279.ok rfl rfl rfl (by kernel_rfl) (by kernel_rfl) (by kernel_rfl) (fun _ _ _ _ _ h => h) (wgF rfl (yl 15 true rfl (n279.ne rfl e278)) rfl) S211 (fun an280 n280 => ?_)
                    refine h_not (i := 21) (fuel := 7) n280.ok rfl rfl rfl (by kernel_rfl) (by kernel_rfl) (by kernel_rfl) (fun _ _ _ _ _ h => h) (wgF rfl (yl 15 true rfl (n280.ne rfl (n279.ne rfl e278))) rfl) S211 (fun an281 n281 => ?_)
                    refine h_not (i := 22) (fuel := 6) n281.ok rfl rfl rfl (by kernel_rfl) (by kernel_rfl) (by kernel_rfl) (fun _ _ _ _ _ h => h) (wgU rfl (yu 21 rfl n281.at_)) S211 (fun an282 n282 => ?_)
                    refine h_not (i := 23) (fuel := 5) n282.ok rfl rfl rfl (by kernel_rfl) (by kernel_rfl) (by kernel_rfl) (fun _ _ _ _ _ h => h) (wgU rfl (yu 21 rfl (n282.ne rfl n281.at_))) S211 (fun an283 n283 => ?_)
                    refine h_not (i := 24) (fuel := 4) n283.ok rfl rfl rfl (by kernel_rfl) (by kernel_rfl) (by kernel_rfl) (fun _ _ _ _ _ h => h) (wgU rfl (yu 21 rfl (n283.ne rfl (n282.ne rfl n281.at_)))) S211 (fun an284 n284 => ?_)
                    have e285 := n284.ne rfl (n283.ne rfl (n282.ne rfl n281.at_))
                    refine h_not (i := 25) (fuel := 3) n284.ok rfl rfl rfl (by kernel_rfl) (by kernel_rfl) (by kernel_rfl) (fun _ _ _ _ _ h => h) (wgU rfl (yu 21 rfl e285)) S211 (fun an286 n286 => ?_)
                    refine h_not (i := 26) (fuel := 2) n286.ok rfl rfl rfl (by kernel_rfl) (by kernel_rfl) (by kernel_rfl) (fun _ _ _ _ _ h => h) (wgU rfl (yu 21 rfl (n286.ne rfl e285))) S211 (fun an287 n287 => ?_)
                    have e288 := n287.ne rfl (n286.ne rfl (n284.ne rfl (n283.ne rfl (n282.ne rfl (n281.ne rfl (n280.ne rfl (n279.ne rfl e278)))))))
                    refine h_not (i := 27) (fuel := 1) n287.ok rfl rfl rfl (by kernel_rfl) (by kernel_rfl) (by kernel_rfl) (fun _ _ _ _ _ h => h) (wgF rfl (yl 15 true rfl e288) rfl) S211 (fun an289 n289 => ?_)
                    refine h_take (i := 28) (fuel := 0) n289.ok rfl rfl rfl (by kernel_rfl) (by kernel_rfl) (by kernel_rfl) (fun _ _ _ _ _ h => h) (wn _ rfl) (fun x hx => o_pkT (n289.ne rfl e288) ev_const) S211 (fun an290 n290 => ?_)
                    refine wpAnyH_done (by kernel_rfl) ?_ _
                    refine th_n (hK210 _ _ ?_)
                    refine wp_cond_true (n290.at_) ?_
                    refine wp_seq_k (fun K291 hK291 => ?_)
                    refine wp_region_lit ?_
                    refine sv n290.ok rfl (wn _ rfl) rfl (o_as ev_const) (fun an292 n292 => ?_)
                    refine wpList_nil ?_
                    refine th_n (hK291 _ _ ?_)
                    refine wp_ret ?_
                    refine th_r ?_
                    refine ib_r ?_
                    refine th_r ?_
                    refine th_r ?_
                    refine ib_r ?_
                    refine th_r ?_
                    have hwhy : yh177 < (cv (natsI V) (nh177 : Int).toNat : Int) + 2 ∨ (0 < k ∧ ¬ ltI (M.getD (k - 1) (0, 0)) ((nh177 : Int), yh177)) := by
                      rw [Int.toNat_natCast, ← hg]
                      by_cases q : yh177 < gv V i nh177 + 2
                      · exact .inl q
                      · exact .inr (lastD_lt hlaI164 (by omega) (by omega))
                    exact ret1 n292.ok rfl (n292.at_) ⟨by rw [chk_dot hl hcv hbI164 (by omega) (badM_form h177x hdB hwhy) (by omega)], G214⟩
                  · have e293 := (n270.at_).trans (congrArg Value.bool (decide_eq_false c271))
                    have e294 := ((n270.ne rfl (n269.ne rfl n268.at_))).trans (congrArg Value.bool (decide_eq_false c271))
                    have e295 := ((n270.ne rfl n269.at_)).trans (congrArg Value.bool (decide_eq_false c271))
                    have e296 := n270.ne rfl (n269.ne rfl (n268.ne rfl (n267.ne rfl (n265.ne rfl (n263.ne rfl (n262.ne rfl e261))))))
                    refine h_take (i := 16) (fuel := 12) n270.ok rfl rfl rfl (by kernel_rfl) (by kernel_rfl) (by kernel_rfl) (fun _ _ _ _ _ h => h) (wgT rfl (yl 15 false rfl e293) rfl) (fun x hx => o_fa (z := 1) e296 Try.underlying26 rfl (by kernel_rfl) rfl rfl) S211 (fun an297 n297 => ?_)
                    refine h_take (i := 17) (fuel := 11) n297.ok rfl rfl rfl (by kernel_rfl) (by kernel_rfl) (by kernel_rfl) (fun _ _ _ _ _ h => h) (wgT rfl (yl 15 false rfl (n297.ne rfl e293)) rfl) (fun x hx => o_ld n297.at_ (Try.isAgg3 _) ((Sx.bk hx B204 (by simp <;> omega)).cell _ rfl)) S211 (fun an298 n298 => ?_)
                    have e299 := n298.ne rfl (n297.ne rfl (n270.ne rfl (n269.ne rfl (n268.ne rfl (n267.ne rfl (n265.ne rfl e264))))))
                    refine h_take (i := 18) (fuel := 10) n298.ok rfl rfl rfl (by kernel_rfl) (by kernel_rfl) (by kernel_rfl) (fun _ _ _ _ _ h => h) (wgT rfl (yl 15 false rfl (n298.ne rfl (n297.ne rfl e293))) rfl) (fun x hx => o_fa (z := 1) e299 Try.underlying26 rfl (by kernel_rfl) rfl rfl) S211 (fun an300 n300 => ?_)
                    have e301 := n300.ne rfl (n298.ne rfl (n297.ne rfl e293))
                    refine h_take (i := 19) (fuel := 9) n300.ok rfl rfl rfl (by kernel_rfl) (by kernel_rfl) (by kernel_rfl) (fun _ _ _ _ _ h => h) (wgT rfl (yl 15 false rfl e301) rfl) (fun x hx => o_ld n300.at_ (Try.isAgg3 _) ((Sx.bk hx B203 (by simp <;> omega)).cell _ rfl)) S211 (fun an302 n302 => ?_)
                    refine h_take (i := 20) (fuel := 8) n302.ok rfl rfl rfl (by kernel_rfl) (by kernel_rfl) (by kernel_rfl) (fun _ _ _ _ _ h => h) (wgT rfl (yl 15 false rfl (n302.ne rfl e301)) rfl) (fun x hx => o_eqI (n302.ne rfl (n300.ne rfl n298.at_)) n302.at_) S211 (fun an303 n303 => ?_)
                    refine h_take (i := 21) (fuel := 7) n303.ok rfl rfl rfl (by kernel_rfl) (by kernel_rfl) (by kernel_rfl) (fun _ _ _ _ _ h => h) (wgT rfl (yl 15 false rfl (n303.ne rfl (n302.ne rfl e301))) rfl) (fun x hx => o_mv n303.at_) S211 (fun an304 n304 => ?_)
                    by_cases c305 : (nh177 : Int) = la
                    · have e306 := (n304.at_).trans (congrArg Value.bool (decide_eq_true c305))
                      have e307 := ((n304.ne rfl n303.at_)).trans (congrArg Value.bool (decide_eq_true c305))
                      have e308 := n304.ne rfl (n303.ne rfl (n302.ne rfl (n300.ne rfl (n298.ne rfl (n297.ne rfl e296)))))
                      refine h_take (i := 22) (fuel := 6) n304.ok rfl rfl rfl (by kernel_rfl) (by kernel_rfl) (by kernel_rfl) (fun _ _ _ _ _ h => h) (wgT rfl (yl 21 true rfl e306) rfl) (fun x hx => o_fa (z := 1) e308 Try.underlying26 rfl (by kernel_rfl) rfl rfl) S211 (fun an309 n309 => ?_)
                      refine h_take (i := 23) (fuel := 5) n309.ok rfl rfl rfl (by kernel_rfl) (by kernel_rfl) (by kernel_rfl) (fun _ _ _ _ _ h => h) (wgT rfl (yl 21 true rfl (n309.ne rfl e306)) rfl) (fun x hx => o_ld n309.at_ (Try.isAgg3 _) ((Sx.bk hx B204 (by simp <;> omega)).cell _ rfl)) S211 (fun an310 n310 => ?_)
                      have e311 := n310.ne rfl (n309.ne rfl (n304.ne rfl (n303.ne rfl (n302.ne rfl (n300.ne rfl e299)))))
                      refine h_take (i := 24) (fuel := 4) n310.ok rfl rfl rfl (by kernel_rfl) (by kernel_rfl) (by kernel_rfl) (fun _ _ _ _ _ h => h) (wgT rfl (yl 21 true rfl (n310.ne rfl (n309.ne rfl e306))) rfl) (fun x hx => o_fa (z := 1) e311 Try.underlying26 rfl (by kernel_rfl) rfl rfl) S211 (fun an312 n312 => ?_)
                      have e313 := n312.ne rfl (n310.ne rfl (n309.ne rfl e306))
                      refine h_take (i := 25) (fuel := 3) n312.ok rfl rfl rfl (by kernel_rfl) (by kernel_rfl) (by kernel_rfl) (fun _ _ _ _ _ h => h) (wgT rfl (yl 21 true rfl e313) rfl) (fun x hx => o_ld n312.at_ (Try.isAgg3 _) ((Sx.bk hx B203 (by simp <;> omega)).cell _ rfl)) S211 (fun an314 n314 => ?_)
                      refine h_take (i := 26) (fuel := 2) n314.ok rfl rfl rfl (by kernel_rfl) (by kernel_rfl) (by kernel_rfl) (fun _ _ _ _ _ h => h) (wgT rfl (yl 21 true rfl (n314.ne rfl e313)) rfl) (fun x hx => o_leI (n314.ne rfl (n312.ne rfl n310.at_)) n314.at_) S211 (fun an315 n315 => ?_)
                      have e316 := n315.ne rfl (n314.ne rfl (n312.ne rfl (n310.ne rfl (n309.ne rfl (n304.ne rfl (n303.ne rfl (n302.ne rfl e301)))))))
                      refine h_take (i := 27) (fuel := 1) n315.ok rfl rfl rfl (by kernel_rfl) (by kernel_rfl) (by kernel_rfl) (fun _ _ _ _ _ h => h) (wgT rfl (yl 15 false rfl e316) rfl) (fun x hx => o_pkT (n315.ne rfl (n314.ne rfl e313)) n315.at_) S211 (fun an317 n317 => ?_)
                      refine h_take (i := 28) (fuel := 0) n317.ok rfl rfl rfl (by kernel_rfl) (by kernel_rfl) (by kernel_rfl) (fun _ _ _ _ _ h => h) (wn _ rfl) (fun x hx => o_pkF (n317.ne rfl e316) n317.at_) S211 (fun an318 n318 => ?_)
                      refine wpAnyH_done (by kernel_rfl) ?_ _
                      refine th_n (hK210 _ _ ?_)
                      by_cases c319 : yh177 ≤ lb
                      · refine wp_cond_true ((n318.at_).trans (congrArg Value.bool (decide_eq_true c319))) ?_
                        refine wp_seq_k (fun K320 hK320 => ?_)
                        refine wp_region_lit ?_
                        refine sv n318.ok rfl (wn _ rfl) rfl (o_as ev_const) (fun an321 n321 => ?_)
                        refine wpList_nil ?_
                        refine th_n (hK320 _ _ ?_)
                        refine wp_ret ?_
                        refine th_r ?_
                        refine ib_r ?_
                        refine th_r ?_
                        refine th_r ?_
                        refine ib_r ?_
                        refine th_r ?_
                        have hwhy : yh177 < (cv (natsI V) (nh177 : Int).toNat : Int) + 2 ∨ (0 < k ∧ ¬ ltI (M.getD (k - 1) (0, 0)) ((nh177 : Int), yh177)) := by
                          rw [Int.toNat_natCast, ← hg]
                          by_cases q : yh177 < gv V i nh177 + 2
                          · exact .inl q
                          · exact .inr (lastD_lt hlaI164 (by omega) (by omega))
                        exact ret1 n321.ok rfl (n321.at_) ⟨by rw [chk_dot hl hcv hbI164 (by omega) (badM_form h177x hdB hwhy) (by omega)], G214⟩
                      · refine wp_cond_false ((n318.at_).trans (congrArg Value.bool (decide_eq_false c319))) ?_
                        refine wp_skip ?_
                        refine th_n (hK209 _ _ ?_)
                        refine wp_region_lit ?_
                        have e322 := n318.ne rfl (n317.ne rfl (n315.ne rfl (n314.ne rfl (n312.ne rfl (n310.ne rfl (n309.ne rfl e308))))))
                        refine sv n318.ok rfl (wn _ rfl) rfl (o_ldR e322 B217 Try.underlying26 rfl (by kernel_rfl)) (fun an323 n323 => ?_)
                        have e324 := n323.ne rfl (n318.ne rfl (n317.ne rfl (n315.ne rfl (n314.ne rfl (n312.ne rfl e311)))))
                        refine ssR rfl (wn _ rfl) (o_stR e324 n323.at_ B216 (by kernel_rfl) rfl (by simp [Value.oneCell'])) B216 (fun w325 u326 u326b => ?_)
                        have G327 : Gr w w325 := Below.upd G214 l148 u326
                        have B328 := B215.upd u326 (Nat.ne_of_lt l147)
                        have B329 := B217.upd u326 (Nat.ne_of_gt l185)
                        refine wpList_nil ?_
                        refine ib_n ?_
                        refine th_n (hK175 _ _ ?_)
                        refine wp_region_lit ?_
                        have e330 := n323.ne rfl (n318.ne rfl (n317.ne rfl (n315.ne rfl (n314.ne rfl (n312.ne rfl (n310.ne rfl (n309.ne rfl (n304.ne rfl (n303.ne rfl (n302.ne rfl (n300.ne rfl (n298.ne rfl (n297.ne rfl (n270.ne rfl (n269.ne rfl (n268.ne rfl (n267.ne rfl (n265.ne rfl (n263.ne rfl (n262.ne rfl (n229.ne rfl (n228.ne rfl (n226.ne rfl (n225.ne rfl (n224.ne rfl (n222.ne rfl (n221.ne rfl (n220.ne rfl (n219.ne rfl (n205.ne rfl (n198.ne rfl (n197.ne rfl (n180.ne rfl (n179.ne rfl (n178.ne rfl (n172.ne rfl s54I164))))))))))))))))))))))))))))))))))))
                        refine sv n323.ok rfl (wn _ rfl) rfl (o_add (r := ((k + 1 : Nat) : Int)) e330 ev_const (by omega) (by omega)) (fun an331 n331 => ?_)
                        refine sv n331.ok rfl (wn _ rfl) rfl (o_mv n331.at_) (fun an332 n332 => ?_)
                        refine wpList_nil ?_
                        have hok : badM (natsI V) M k = 0 := badM_ok h177x hdB (by
                          rintro (q | q)
                          · rw [Int.toNat_natCast, ← hg] at q; omega
                          · exact lastD_ge hlaI164 (by omega) q)
                        have e333 := n332.ne rfl (n331.ne rfl (n323.ne rfl (n318.ne rfl (n317.ne rfl (n315.ne rfl (n314.ne rfl (n312.ne rfl (n310.ne rfl (n309.ne rfl (n304.ne rfl (n303.ne rfl (n302.ne rfl (n300.ne rfl (n298.ne rfl (n297.ne rfl (n270.ne rfl (n269.ne rfl (n268.ne rfl (n267.ne rfl (n265.ne rfl (n263.ne rfl (n262.ne rfl (n229.ne rfl (n228.ne rfl (n226.ne rfl (n225.ne rfl (n224.ne rfl (n222.ne rfl (n221.ne rfl (n220.ne rfl (n219.ne rfl (n205.ne rfl (n198.ne rfl (n197.ne rfl (n180.ne rfl (n179.ne rfl (n178.ne rfl (n172.ne rfl s2I164))))))))))))))))))))))))))))))))))))))
                        have e334 := n332.ne rfl (n331.ne rfl (n323.ne rfl (n318.ne rfl (n317.ne rfl (n315.ne rfl (n314.ne rfl (n312.ne rfl (n310.ne rfl (n309.ne rfl (n304.ne rfl (n303.ne rfl (n302.ne rfl (n300.ne rfl (n298.ne rfl (n297.ne rfl (n270.ne rfl (n269.ne rfl (n268.ne rfl (n267.ne rfl (n265.ne rfl (n263.ne rfl (n262.ne rfl (n229.ne rfl (n228.ne rfl (n226.ne rfl (n225.ne rfl (n224.ne rfl e223)))))))))))))))))))))))))))
                        have e335 := n332.ne rfl (n331.ne rfl (n323.ne rfl (n318.ne rfl (n317.ne rfl (n315.ne rfl (n314.ne rfl (n312.ne rfl (n310.ne rfl (n309.ne rfl (n304.ne rfl (n303.ne rfl (n302.ne rfl (n300.ne rfl (n298.ne rfl (n297.ne rfl (n270.ne rfl (n269.ne rfl (n268.ne rfl (n267.ne rfl (n265.ne rfl (n263.ne rfl (n262.ne rfl (n229.ne rfl (n228.ne rfl (n226.ne rfl (n225.ne rfl (n224.ne rfl (n222.ne rfl (n221.ne rfl (n220.ne rfl (n219.ne rfl (n205.ne rfl (n198.ne rfl (n197.ne rfl (n180.ne rfl (n179.ne rfl (n178.ne rfl (n172.ne rfl s52I164))))))))))))))))))))))))))))))))))))))
                        have e336 := n332.ne rfl (n331.ne rfl (n323.ne rfl (n318.ne rfl (n317.ne rfl (n315.ne rfl (n314.ne rfl (n312.ne rfl (n310.ne rfl (n309.ne rfl (n304.ne rfl (n303.ne rfl (n302.ne rfl (n300.ne rfl (n298.ne rfl (n297.ne rfl (n270.ne rfl (n269.ne rfl (n268.ne rfl (n267.ne rfl (n265.ne rfl (n263.ne rfl (n262.ne rfl (n229.ne rfl (n228.ne rfl (n226.ne rfl (n225.ne rfl (n224.ne rfl (n222.ne rfl (n221.ne rfl (n220.ne rfl (n219.ne rfl (n205.ne rfl (n198.ne rfl (n197.ne rfl (n180.ne rfl (n179.ne rfl (n178.ne rfl (n172.ne rfl s53I164))))))))))))))))))))))))))))))))))))))
                        exact th_n (hKI164 _ _ _ (by omega) ⟨k + 1, nh177, yh177, rfl, n332.ok, G327, e333, e334, (n332.ne rfl (n331.ne rfl e324)), e335, e336, n332.at_, B328, u326b, by omega, all_up hbI164 hok, .inr ⟨by omega, h177x⟩⟩)
                    · have e337 := (n304.at_).trans (congrArg Value.bool (decide_eq_false c305))
                      have e338 := ((n304.ne rfl n303.at_)).trans (congrArg Value.bool (decide_eq_false c305))
                      refine h_not (i := 22) (fuel := 6) n304.ok rfl rfl rfl (by kernel_rfl) (by kernel_rfl) (by kernel_rfl) (fun _ _ _ _ _ h => h) (wgF rfl (yl 21 false rfl e337) rfl) S211 (fun an339 n339 => ?_)
                      refine h_not (i := 23) (fuel := 5) n339.ok rfl rfl rfl (by kernel_rfl) (by kernel_rfl) (by kernel_rfl) (fun _ _ _ _ _ h => h) (wgF rfl (yl 21 false rfl (n339.ne rfl e337)) rfl) S211 (fun an340 n340 => ?_)
                      refine h_not (i := 24) (fuel := 4) n340.ok rfl rfl rfl (by kernel_rfl) (by kernel_rfl) (by kernel_rfl) (fun _ _ _ _ _ h => h) (wgF rfl (yl 21 false rfl (n340.ne rfl (n339.ne rfl e337))) rfl) S211 (fun an341 n341 => ?_)
                      have e342 := n341.ne rfl (n340.ne rfl (n339.ne rfl e337))
                      refine h_not (i := 25) (fuel := 3) n341.ok rfl rfl rfl (by kernel_rfl) (by kernel_rfl) (by kernel_rfl) (fun _ _ _ _ _ h => h) (wgF rfl (yl 21 false rfl e342) rfl) S211 (fun an343 n343 => ?_)
                      refine h_not (i := 26) (fuel := 2) n343.ok rfl rfl rfl (by kernel_rfl) (by kernel_rfl) (by kernel_rfl) (fun _ _ _ _ _ h => h) (wgF rfl (yl 21 false rfl (n343.ne rfl e342)) rfl) S211 (fun an344 n344 => ?_)
                      have e345 := n344.ne rfl (n343.ne rfl (n341.ne rfl (n340.ne rfl (n339.ne rfl (n304.ne rfl (n303.ne rfl (n302.ne rfl e301)))))))
                      refine h_take (i := 27) (fuel := 1) n344.ok rfl rfl rfl (by kernel_rfl) (by kernel_rfl) (by kernel_rfl) (fun _ _ _ _ _ h => h) (wgT rfl (yl 15 false rfl e345) rfl) (fun x hx => o_pkF (n344.ne rfl (n343.ne rfl e342)) ev_const) S211 (fun an346 n346 => ?_)
                      refine h_take (i := 28) (fuel := 0) n346.ok rfl rfl rfl (by kernel_rfl) (by kernel_rfl) (by kernel_rfl) (fun _ _ _ _ _ h => h) (wn _ rfl) (fun x hx => o_pkF (n346.ne rfl e345) n346.at_) S211 (fun an347 n347 => ?_)
                      refine wpAnyH_done (by kernel_rfl) ?_ _
                      refine th_n (hK210 _ _ ?_)
                      refine wp_cond_false (n347.at_) ?_
                      refine wp_skip ?_
                      refine th_n (hK209 _ _ ?_)
                      refine wp_region_lit ?_
                      have e348 := n347.ne rfl (n346.ne rfl (n344.ne rfl (n343.ne rfl (n341.ne rfl (n340.ne rfl (n339.ne rfl (n304.ne rfl (n303.ne rfl (n302.ne rfl (n300.ne rfl (n298.ne rfl (n297.ne rfl e296))))))))))))
                      refine sv n347.ok rfl (wn _ rfl) rfl (o_ldR e348 B217 Try.underlying26 rfl (by kernel_rfl)) (fun an349 n349 => ?_)
                      have e350 := n349.ne rfl (n347.ne rfl (n346.ne rfl (n344.ne rfl (n343.ne rfl (n341.ne rfl (n340.ne rfl (n339.ne rfl (n304.ne rfl (n303.ne rfl (n302.ne rfl (n300.ne rfl e299)))))))))))
                      refine ssR rfl (wn _ rfl) (o_stR e350 n349.at_ B216 (by kernel_rfl) rfl (by simp [Value.oneCell'])) B216 (fun w351 u352 u352b => ?_)
                      have G353 : Gr w w351 := Below.upd G214 l148 u352
                      have B354 := B215.upd u352 (Nat.ne_of_lt l147)
                      have B355 := B217.upd u352 (Nat.ne_of_gt l185)
                      refine wpList_nil ?_
                      refine ib_n ?_
                      refine th_n (hK175 _ _ ?_)
                      refine wp_region_lit ?_
                      have e356 := n349.ne rfl (n347.ne rfl (n346.ne rfl (n344.ne rfl (n343.ne rfl (n341.ne rfl (n340.ne rfl (n339.ne rfl (n304.ne rfl (n303.ne rfl (n302.ne rfl (n300.ne rfl (n298.ne rfl (n297.ne rfl (n270.ne rfl (n269.ne rfl (n268.ne rfl (n267.ne rfl (n265.ne rfl (n263.ne rfl (n262.ne rfl (n229.ne rfl (n228.ne rfl (n226.ne rfl (n225.ne rfl (n224.ne rfl (n222.ne rfl (n221.ne rfl (n220.ne rfl (n219.ne rfl (n205.ne rfl (n198.ne rfl (n197.ne rfl (n180.ne rfl (n179.ne rfl (n178.ne rfl (n172.ne rfl s54I164))))))))))))))))))))))))))))))))))))
                      refine sv n349.ok rfl (wn _ rfl) rfl (o_add (r := ((k + 1 : Nat) : Int)) e356 ev_const (by omega) (by omega)) (fun an357 n357 => ?_)
                      refine sv n357.ok rfl (wn _ rfl) rfl (o_mv n357.at_) (fun an358 n358 => ?_)
                      refine wpList_nil ?_
                      have hok : badM (natsI V) M k = 0 := badM_ok h177x hdB (by
                        rintro (q | q)
                        · rw [Int.toNat_natCast, ← hg] at q; omega
                        · exact lastD_ge hlaI164 (by omega) q)
                      have e359 := n358.ne rfl (n357.ne rfl (n349.ne rfl (n347.ne rfl (n346.ne rfl (n344.ne rfl (n343.ne rfl (n341.ne rfl (n340.ne rfl (n339.ne rfl (n304.ne rfl (n303.ne rfl (n302.ne rfl (n300.ne rfl (n298.ne rfl (n297.ne rfl (n270.ne rfl (n269.ne rfl (n268.ne rfl (n267.ne rfl (n265.ne rfl (n263.ne rfl (n262.ne rfl (n229.ne rfl (n228.ne rfl (n226.ne rfl (n225.ne rfl (n224.ne rfl (n222.ne rfl (n221.ne rfl (n220.ne rfl (n219.ne rfl (n205.ne rfl (n198.ne rfl (n197.ne rfl (n180.ne rfl (n179.ne rfl (n178.ne rfl (n172.ne rfl s2I164))))))))))))))))))))))))))))))))))))))
                      have e360 := n358.ne rfl (n357.ne rfl (n349.ne rfl (n347.ne rfl (n346.ne rfl (n344.ne rfl (n343.ne rfl (n341.ne rfl (n340.ne rfl (n339.ne rfl (n304.ne rfl (n303.ne rfl (n302.ne rfl (n300.ne rfl (n298.ne rfl (n297.ne rfl (n270.ne rfl (n269.ne rfl (n268.ne rfl (n267.ne rfl (n265.ne rfl (n263.ne rfl (n262.ne rfl (n229.ne rfl (n228.ne rfl (n226.ne rfl (n225.ne rfl (n224.ne rfl e223)))))))))))))))))))))))))))
                      have e361 := n358.ne rfl (n357.ne rfl (n349.ne rfl (n347.ne rfl (n346.ne rfl (n344.ne rfl (n343.ne rfl (n341.ne rfl (n340.ne rfl (n339.ne rfl (n304.ne rfl (n303.ne rfl (n302.ne rfl (n300.ne rfl (n298.ne rfl (n297.ne rfl (n270.ne rfl (n269.ne rfl (n268.ne rfl (n267.ne rfl (n265.ne rfl (n263.ne rfl (n262.ne rfl (n229.ne rfl (n228.ne rfl (n226.ne rfl (n225.ne rfl (n224.ne rfl (n222.ne rfl (n221.ne rfl (n220.ne rfl (n219.ne rfl (n205.ne rfl (n198.ne rfl (n197.ne rfl (n180.ne rfl (n179.ne rfl (n178.ne rfl (n172.ne rfl s52I164))))))))))))))))))))))))))))))))))))))
                      have e362 := n358.ne rfl (n357.ne rfl (n349.ne rfl (n347.ne rfl (n346.ne rfl (n344.ne rfl (n343.ne rfl (n341.ne rfl (n340.ne rfl (n339.ne rfl (n304.ne rfl (n303.ne rfl (n302.ne rfl (n300.ne rfl (n298.ne rfl (n297.ne rfl (n270.ne rfl (n269.ne rfl (n268.ne rfl (n267.ne rfl (n265.ne rfl (n263.ne rfl (n262.ne rfl (n229.ne rfl (n228.ne rfl (n226.ne rfl (n225.ne rfl (n224.ne rfl (n222.ne rfl (n221.ne rfl (n220.ne rfl (n219.ne rfl (n205.ne rfl (n198.ne rfl (n197.ne rfl (n180.ne rfl (n179.ne rfl (n178.ne rfl (n172.ne rfl s53I164))))))))))))))))))))))))))))))))))))))
                      exact th_n (hKI164 _ _ _ (by omega) ⟨k + 1, nh177, yh177, rfl, n358.ok, G353, e359, e360, (n358.ne rfl (n357.ne rfl e350)), e361, e362, n358.at_, B354, u352b, by omega, all_up hbI164 hok, .inr ⟨by omega, h177x⟩⟩)
            · refine wp_cond_false ((n172.at_).trans (congrArg Value.bool (decide_eq_false c174))) ?_
              refine wp_exit ?_
              refine th_x ?_
              refine th_x ?_
              refine ib_x ?_
              refine th_n (hK157 _ _ ?_)
              refine wp_seq_k (fun K363 hK363 => ?_)
              refine wp_region_lit ?_
              refine sv n172.ok rfl (wn _ rfl) rfl (o_as ev_const) (fun an364 n364 => ?_)
              refine wpList_nil ?_
              refine th_n (hK363 _ _ ?_)
              refine wp_ret ?_
              exact ret1 n364.ok rfl (n364.at_) ⟨by rw [chk_ok hl hcv (fun j hj => hbI164 j (by omega))], GI164⟩
        · have e365 := (n120.at_).trans (congrArg Value.bool (decide_eq_false c121))
          have e366 := ((n120.ne rfl n119.at_)).trans (congrArg Value.bool (decide_eq_false c121))
          refine sn n120.ok rfl (wgF rfl (yl 2 false rfl e365) rfl) rfl (fun an367 n367 => ?_)
          refine sn n367.ok rfl (wgF rfl (yl 2 false rfl (n367.ne rfl e365)) rfl) rfl (fun an368 n368 => ?_)
          refine sn n368.ok rfl (wgF rfl (yl 2 false rfl (n368.ne rfl (n367.ne rfl e365))) rfl) rfl (fun an369 n369 => ?_)
          have e370 := n369.ne rfl (n368.ne rfl (n367.ne rfl e365))
          refine sn n369.ok rfl (wgF rfl (yl 2 false rfl e370) rfl) rfl (fun an371 n371 => ?_)
          refine sn n371.ok rfl (wgF rfl (yl 2 false rfl (n371.ne rfl e370)) rfl) rfl (fun an372 n372 => ?_)
          refine sn n372.ok rfl (wgF rfl (yl 2 false rfl (n372.ne rfl (n371.ne rfl e370))) rfl) rfl (fun an373 n373 => ?_)
          have e374 := n373.ne rfl (n372.ne rfl (n371.ne rfl e370))
          refine sn n373.ok rfl (wgF rfl (yl 2 false rfl e374) rfl) rfl (fun an375 n375 => ?_)
          refine sv n375.ok rfl (wn _ rfl) rfl (o_pkF (n375.ne rfl e374) ev_const) (fun an376 n376 => ?_)
          refine wpList_nil ?_
          refine th_n (hK117 _ _ ?_)
          refine wp_cond_false (n376.at_) ?_
          refine wp_skip ?_
          refine th_n (hK111 _ _ ?_)
          refine wp_seq_k (fun K377 hK377 => ?_)
          refine wp_region_lit ?_
          refine sv n376.ok rfl (wn _ rfl) rfl (o_bd (cells := #[.int .i64 (-1), .int .i64 0]) (vs := [(0, .int .i64 (-1))]) (by simp [ev_const]) (by kernel_rfl)) (fun an378 n378 => ?_)
          refine sal (cs := #[.int .i64 0, .int .i64 0]) n378.ok rfl (wn _ rfl) rfl (o_al (z := .agg #[.int .i64 0, .int .i64 0]) (by kernel_rfl)) (fun an379 w381 b380 W382 n379 => ?_)
          have l383 : b3 < b380 := by rw [W382.eq]; exact kb3I60.lt
          have l384 : b42 < b380 := by rw [W382.eq]; exact kb42I60.lt
          have l385 : w.heap.size ≤ b380 := by rw [W382.eq]; exact GI60.size
          have G386 := GI60.trans W382.gr
          have B387 := kb3I60.gr W382.gr
          have B388 := kb42I60.gr W382.gr
          refine ssR rfl (wn _ rfl) (o_stR n379.at_ (n379.ne rfl n378.at_) W382.bk (by kernel_rfl) rfl (by simp [Value.oneCell'])) W382.bk (fun w389 u390 u390b => ?_)
          have G391 : Gr w w389 := Below.upd G386 l385 u390
          have B392 := B387.upd u390 (Nat.ne_of_lt l383)
          have B393 := B388.upd u390 (Nat.ne_of_lt l384)
          refine wpList_nil ?_
          refine th_n (hK377 _ _ ?_)
          refine wp_seq_k (fun K394 hK394 => ?_)
          refine wp_seq_k (fun K395 hK395 => ?_)
          refine wp_region_lit ?_
          have e396 := n379.ne rfl (n378.ne rfl (n376.ne rfl (n375.ne rfl (n373.ne rfl (n372.ne rfl (n371.ne rfl (n369.ne rfl (n368.ne rfl (n367.ne rfl (n120.ne rfl (n119.ne rfl (n118.ne rfl (n116.ne rfl (n115.ne rfl (n114.ne rfl (n113.ne rfl (n68.ne rfl s1I60)))))))))))))))))
          refine sv n379.ok rfl (wn _ rfl) rfl (o_fa (z := 1) e396 Try.underlying35 rfl (by kernel_rfl) rfl rfl) (fun an397 n397 => ?_)
          refine sv n397.ok rfl (wn _ rfl) rfl (o_ld n397.at_ (Try.isAgg33 _) (B392.cell _ rfl)) (fun an398 n398 => ?_)
          refine sv n398.ok rfl (wn _ rfl) rfl (o_len n398.at_ Try.underlying33) (fun an399 n399 => ?_)
          refine sv n399.ok rfl (wn _ rfl) rfl (o_mv ev_const) (fun an400 n400 => ?_)
          refine wpList_nil ?_
          refine th_n (hK395 _ _ ?_)
          refine wp_block ?_
          have hcv := chkV_ok hbA (.inl (by omega))
          have e402 := n400.ne rfl (n399.ne rfl (n398.ne rfl (n397.ne rfl (n379.ne rfl (n378.ne rfl (n376.ne rfl (n375.ne rfl (n373.ne rfl (n372.ne rfl (n371.ne rfl (n369.ne rfl (n368.ne rfl (n367.ne rfl (n120.ne rfl (n119.ne rfl (n118.ne rfl (n116.ne rfl (n115.ne rfl (n114.ne rfl (n113.ne rfl (n68.ne rfl s2I60)))))))))))))))))))))
          have e403 := n400.ne rfl (n399.ne rfl (n398.ne rfl (n397.ne rfl (n379.ne rfl (n378.ne rfl (n376.ne rfl (n375.ne rfl (n373.ne rfl (n372.ne rfl (n371.ne rfl (n369.ne rfl (n368.ne rfl (n367.ne rfl (n120.ne rfl (n119.ne rfl (n118.ne rfl (n116.ne rfl (n115.ne rfl (n114.ne rfl (n113.ne rfl (n68.ne rfl s3I60)))))))))))))))))))))
          have e404 := n400.ne rfl (n399.ne rfl (n398.ne rfl (n397.ne rfl n379.at_)))
          refine lp (fun (nL : Nat) (aL : Act) (wL : World) => ∃ k : Nat, ∃ la : Int, ∃ lb : Int, nL = M.length - k ∧ Ok 92 aL ∧ Gr w wL ∧ (aL.eval (.tmp 2) = .int .i64 0) ∧ (aL.eval (.tmp 3) = .pointer (some ⟨b42, 0, none⟩)) ∧ (aL.eval (.tmp 7) = .pointer (some ⟨b380, 0, none⟩)) ∧ (aL.eval (.tmp 52) = .slice ma M.length mc) ∧ (aL.eval (.tmp 53) = .int .i64 ((M.length : Nat) : Int)) ∧ (aL.eval (.tmp 54) = .int .i64 (k : Int)) ∧ (Bk wL b42 (a5 (gv V i)) 61) ∧ (Bk wL b380 #[.int .i64 (la), .int .i64 (lb)] 26) ∧ (k ≤ M.length) ∧ (∀ j, j < k → badM (natsI V) M j = 0) ∧ (lastD M k la lb)) _ ⟨0, (-1), 0, rfl, n400.ok, G391, e402, e403, e404, (n400.ne rfl (n399.ne rfl n398.at_)), (n400.ne rfl n399.at_), n400.at_, B393, u390b, by omega, fun j h => by omega, .inl ⟨rfl, rfl, rfl⟩⟩ ?_
          rintro m405 aI401 w407 ⟨k, la, lb, hmI401, okI401, GI401, s2I401, s3I401, s7I401, s52I401, s53I401, s54I401, kb42I401, kb380I401, hkI401, hbI401, hlaI401⟩ KI401 hKI401
          refine wp_seq_k (fun K408 hK408 => ?_)
          refine wp_region_lit ?_
          refine sv okI401 rfl (wn _ rfl) rfl (o_ltI s54I401 s53I401) (fun an409 n409 => ?_)
          refine wpList_nil ?_
          refine th_n (hK408 _ _ ?_)
          refine wp_seq_k (fun K410 hK410 => ?_)
          by_cases c411 : (k : Int) < ((M.length : Nat) : Int)
          · refine wp_cond_true ((n409.at_).trans (congrArg Value.bool (decide_eq_true c411))) ?_
            refine wp_skip ?_
            refine th_n (hK410 _ _ ?_)
            refine wp_seq_k (fun K412 hK412 => ?_)
            refine wp_block ?_
            refine wp_seq_k (fun K413 hK413 => ?_)
            refine wp_region_lit ?_
            have h414l : k < List.length M := by omega
            obtain ⟨bh414, fh414, h414a, h414b, h414c⟩ := hm (ne_nil_of_lt h414l)
            obtain ⟨⟨xh414, yh414⟩, h414x⟩ : ∃ x, M[k]? = some x := ⟨_, List.getElem?_eq_getElem h414l⟩
            refine sv n409.ok rfl (wn _ rfl) rfl (o_iaV (i := k) (s := 2) h414a (n409.ne rfl s52I401) (n409.ne rfl s54I401) Try.underlying33 (by kernel_rfl) h414l) (fun an415 n415 => ?_)
            refine sv n415.ok rfl (wn _ rfl) rfl (o_ldA (k := fh414 + k * 2) n415.at_ (cells_to (fun j => Below.cell GI401 h414b) (two_cells (h414c _ _ h414x).1 (h414c _ _ h414x).2)) Try.underlying26 rfl (by kernel_rfl)) (fun an416 n416 => ?_)
            refine sal (cs := #[.int .i64 0, .int .i64 0]) n416.ok rfl (wn _ rfl) rfl (o_al (z := .agg #[.int .i64 0, .int .i64 0]) (by kernel_rfl)) (fun an417 w419 b418 W420 n417 => ?_)
            have l421 : b42 < b418 := by rw [W420.eq]; exact kb42I401.lt
            have l422 : b380 < b418 := by rw [W420.eq]; exact kb380I401.lt
            have l423 : w.heap.size ≤ b418 := by rw [W420.eq]; exact GI401.size
            have G424 := GI401.trans W420.gr
            have B425 := kb42I401.gr W420.gr
            have B426 := kb380I401.gr W420.gr
            refine ssR rfl (wn _ rfl) (o_stR n417.at_ (n417.ne rfl n416.at_) W420.bk (by kernel_rfl) rfl (by simp [Value.oneCell'])) W420.bk (fun w427 u428 u428b => ?_)
            have G429 : Gr w w427 := Below.upd G424 l423 u428
            have B430 := B425.upd u428 (Nat.ne_of_lt l421)
            have B431 := B426.upd u428 (Nat.ne_of_lt l422)
            refine wpList_nil ?_
            refine th_n (hK413 _ _ ?_)
            refine wp_seq_k (fun K432 hK432 => ?_)
            refine wp_seq_k (fun K433 hK433 => ?_)
            refine wp_region_lit ?_
            refine sv n417.ok rfl (wn _ rfl) rfl (o_ldR n417.at_ u428b Try.underlying26 rfl (by kernel_rfl)) (fun an434 n434 => ?_)
            refine sc n434.ok rfl (wn _ rfl) rfl (o_f1 Try.func11 rfl rfl rfl n434.at_) (rdot_p _ _ w427) ?_
            rintro _ w436 ⟨rfl, g437⟩
            refine ⟨_, rfl, fun an435 n435 => ?_⟩
            have G438 := G429.trans g437
            have B439 := B430.gr g437
            have B440 := B431.gr g437
            have B441 := u428b.gr g437
            refine sv n435.ok rfl (wn _ rfl) rfl (o_notD n435.at_) (fun an442 n442 => ?_)
            refine wpList_nil ?_
            refine th_n (hK433 _ _ ?_)
            by_cases c443 : ¬ (dotB (xh414, yh414) = true)
            · refine wp_cond_true ((n442.at_).trans (congrArg Value.bool (decide_eq_true c443))) ?_
              refine wp_seq_k (fun K444 hK444 => ?_)
              refine wp_region_lit ?_
              refine sv n442.ok rfl (wn _ rfl) rfl (o_as ev_const) (fun an445 n445 => ?_)
              refine wpList_nil ?_
              refine th_n (hK444 _ _ ?_)
              refine wp_ret ?_
              refine th_r ?_
              refine ib_r ?_
              refine th_r ?_
              refine th_r ?_
              refine ib_r ?_
              refine th_r ?_
              have hnd : ¬ dotB (xh414, yh414) = true := c443
              exact ret1 n445.ok rfl (n445.at_) ⟨by rw [chk_dot hl hcv hbI401 (by omega) (badM_dot h414x (by simpa using hnd)) (by omega)], G438⟩
            · refine wp_cond_false ((n442.at_).trans (congrArg Value.bool (decide_eq_false c443))) ?_
              have hdB : dotB (xh414, yh414) = true := Classical.not_not.1 c443
              obtain ⟨hd1, hd2, hd3, hd4⟩ := (dotB_iff _).1 hdB
              simp only at hd1 hd2 hd3 hd4
              obtain ⟨nh414, hnh414⟩ : ∃ n : Nat, xh414 = (n : Int) := ⟨xh414.toNat, by omega⟩
              subst hnh414
              have hg := gv_cv hbA nh414 (i := i) (by omega)
              have hgl := gv_le hbA i nh414
              refine wp_skip ?_
              refine th_n (hK432 _ _ ?_)
              refine wp_seq_k (fun K446 hK446 => ?_)
              refine wp_seq_k (fun K447 hK447 => ?_)
              refine h_start [] 29 #[false, false, false, false, false, false, false, false, false, false, false, false, false, false, false, false, false, false, false, false, false, false, false, false, false, false, false, false, false] (by kernel_rfl) rfl rfl ?_
              have S448 := Sx.drew [] w436
              have g449 := (Gr.refl w436).drew
              generalize w436.drew = w450 at *
              have G451 := G438.trans g449
              have B452 := B439.gr g449
              have B453 := B440.gr g449
              have B454 := B441.gr g449
              have e455 := n442.ne rfl (n435.ne rfl (n434.ne rfl n417.at_))
              refine h_take (i := 0) (fuel := 28) n442.ok rfl rfl rfl (by kernel_rfl) (by kernel_rfl) (by kernel_rfl) (fun _ _ _ _ _ h => h) (wn _ rfl) (fun x hx => o_fa (z := 1) e455 Try.underlying26 rfl (by kernel_rfl) rfl rfl) S448 (fun an456 n456 => ?_)
              refine h_take (i := 1) (fuel := 27) n456.ok rfl rfl rfl (by kernel_rfl) (by kernel_rfl) (by kernel_rfl) (fun _ _ _ _ _ h => h) (wn _ rfl) (fun x hx => o_ld n456.at_ (Try.isAgg3 _) ((Sx.bk hx B441 (by simp <;> omega)).cell _ rfl)) S448 (fun an457 n457 => ?_)
              refine h_take (i := 2) (fuel := 26) n457.ok rfl rfl rfl (by kernel_rfl) (by kernel_rfl) (by kernel_rfl) (fun _ _ _ _ _ h => h) (wn _ rfl) (fun x hx => o_fa (z := 1) (n457.ne rfl (n456.ne rfl e455)) Try.underlying26 rfl (by kernel_rfl) rfl rfl) S448 (fun an458 n458 => ?_)
              refine h_take (i := 3) (fuel := 25) n458.ok rfl rfl rfl (by kernel_rfl) (by kernel_rfl) (by kernel_rfl) (fun _ _ _ _ _ h => h) (wn _ rfl) (fun x hx => o_ld n458.at_ (Try.isAgg3 _) ((Sx.bk hx B441 (by simp <;> omega)).cell _ rfl)) S448 (fun an459 n459 => ?_)
              have e460 := n459.ne rfl (n458.ne rfl (n457.ne rfl (n456.ne rfl (n442.ne rfl (n435.ne rfl (n434.ne rfl (n417.ne rfl (n416.ne rfl (n415.ne rfl (n409.ne rfl s3I401))))))))))
              refine h_take (i := 4) (fuel := 24) n459.ok rfl rfl rfl (by kernel_rfl) (by kernel_rfl) (by kernel_rfl) (fun _ _ _ _ _ h => h) (wn _ rfl) (fun x hx => o_iaA (i := nh414) (s := 1) e460 n459.at_ Try.underlying61 (by kernel_rfl) (by omega)) S448 (fun an461 n461 => ?_)
              refine h_take (i := 5) (fuel := 23) n461.ok rfl rfl rfl (by kernel_rfl) (by kernel_rfl) (by kernel_rfl) (fun _ _ _ _ _ h => h) (wn _ rfl) (fun x hx => o_ld n461.at_ (Try.isAgg3 _) ((Sx.bk hx B439 (by simp <;> omega)).cell _ (by rw [show 0 + (nh414) * 1 = nh414 by omega]; exact a5_at _ _ (by omega)))) S448 (fun an462 n462 => ?_)
              refine h_take (i := 6) (fuel := 22) n462.ok rfl rfl rfl (by kernel_rfl) (by kernel_rfl) (by kernel_rfl) (fun _ _ _ _ _ h => h) (wn _ rfl) (fun x hx => o_add n462.at_ ev_const rfl (by omega)) S448 (fun an463 n463 => ?_)
              have e464 := n463.ne rfl (n462.ne rfl (n461.ne rfl (n459.ne rfl (n458.ne rfl n457.at_))))
              refine h_take (i := 7) (fuel := 21) n463.ok rfl rfl rfl (by kernel_rfl) (by kernel_rfl) (by kernel_rfl) (fun _ _ _ _ _ h => h) (wn _ rfl) (fun x hx => o_ltI e464 n463.at_) S448 (fun an465 n465 => ?_)
              refine h_take (i := 8) (fuel := 20) n465.ok rfl rfl rfl (by kernel_rfl) (by kernel_rfl) (by kernel_rfl) (fun _ _ _ _ _ h => h) (wn _ rfl) (fun x hx => o_mv n465.at_) S448 (fun an466 n466 => ?_)
              by_cases c467 : yh414 < (((gv V i) (nh414)) + 2)
              · have e468 := (n466.at_).trans (congrArg Value.bool (decide_eq_true c467))
                have e469 := ((n466.ne rfl n465.at_)).trans (congrArg Value.bool (decide_eq_true c467))
                refine h_not (i := 9) (fuel := 19) n466.ok rfl rfl rfl (by kernel_rfl) (by kernel_rfl) (by kernel_rfl) (fun _ _ _ _ _ h => h) (wgF rfl (yl 8 true rfl e468) rfl) S448 (fun an470 n470 => ?_)
                refine h_not (i := 10) (fuel := 18) n470.ok rfl rfl rfl (by kernel_rfl) (by kernel_rfl) (by kernel_rfl) (fun _ _ _ _ _ h => h) (wgF rfl (yl 8 true rfl (n470.ne rfl e468)) rfl) S448 (fun an471 n471 => ?_)
                refine h_not (i := 11) (fuel := 17) n471.ok rfl rfl rfl (by kernel_rfl) (by kernel_rfl) (by kernel_rfl) (fun _ _ _ _ _ h => h) (wgF rfl (yl 8 true rfl (n471.ne rfl (n470.ne rfl e468))) rfl) S448 (fun an472 n472 => ?_)
                have e473 := n472.ne rfl (n471.ne rfl (n470.ne rfl e468))
                refine h_not (i := 12) (fuel := 16) n472.ok rfl rfl rfl (by kernel_rfl) (by kernel_rfl) (by kernel_rfl) (fun _ _ _ _ _ h => h) (wgF rfl (yl 8 true rfl e473) rfl) S448 (fun an474 n474 => ?_)
                refine h_not (i := 13) (fuel := 15) n474.ok rfl rfl rfl (by kernel_rfl) (by kernel_rfl) (by kernel_rfl) (fun _ _ _ _ _ h => h) (wgF rfl (yl 8 true rfl (n474.ne rfl e473)) rfl) S448 (fun an475 n475 => ?_)
                refine h_take (i := 14) (fuel := 14) n475.ok rfl rfl rfl (by kernel_rfl) (by kernel_rfl) (by kernel_rfl) (fun _ _ _ _ _ h => h) (wn _ rfl) (fun x hx => o_pkT (n475.ne rfl (n474.ne rfl e473)) ev_const) S448 (fun an476 n476 => ?_)
                refine h_take (i := 15) (fuel := 13) n476.ok rfl rfl rfl (by kernel_rfl) (by kernel_rfl) (by kernel_rfl) (fun _ _ _ _ _ h => h) (wn _ rfl) (fun x hx => o_mv n476.at_) S448 (fun an477 n477 => ?_)
                refine h_not (i := 16) (fuel := 12) n477.ok rfl rfl rfl (by kernel_rfl) (by kernel_rfl) (by kernel_rfl) (fun _ _ _ _ _ h => h) (wgF rfl (yl 15 true rfl n477.at_) rfl) S448 (fun an478 n478 => ?_)
                refine h_not (i := 17) (fuel := 11) n478.ok rfl rfl rfl (by kernel_rfl) (by kernel_rfl) (by kernel_rfl) (fun _ _ _ _ _ h => h) (wgF rfl (yl 15 true rfl (n478.ne rfl n477.at_)) rfl) S448 (fun an479 n479 => ?_)
                refine h_not (i := 18) (fuel := 10) n479.ok rfl rfl rfl (by kernel_rfl) (by kernel_rfl) (by kernel_rfl) (fun _ _ _ _ _ h => h) (wgF rfl (yl 15 true rfl (n479.ne rfl (n478.ne rfl n477.at_))) rfl) S448 (fun an480 n480 => ?_)
                have e481 := n480.ne rfl (n479.ne rfl (n478.ne rfl n477.at_))
                refine h_not (i := 19) (fuel := 9) n480.ok rfl rfl rfl (by kernel_rfl) (by kernel_rfl) (by kernel_rfl) (fun _ _ _ _ _ h => h) (wgF rfl (yl 15 true rfl e481) rfl) S448 (fun an482 n482 => ?_)
                refine h_not (i := 20) (fuel := 8) n482.ok rfl rfl rfl (by kernel_rfl) (by kernel_rfl) (by kernel_rfl) (fun _ _ _ _ _ h => h) (wgF rfl (yl 15 true rfl (n482.ne rfl e481)) rfl) S448 (fun an483 n483 => ?_)
                refine h_not (i := 21) (fuel := 7) n483.ok rfl rfl rfl (by kernel_rfl) (by kernel_rfl) (by kernel_rfl) (fun _ _ _ _ _ h => h) (wgF rfl (yl 15 true rfl (n483.ne rfl (n482.ne rfl e481))) rfl) S448 (fun an484 n484 => ?_)
                refine h_not (i := 22) (fuel := 6) n484.ok rfl rfl rfl (by kernel_rfl) (by kernel_rfl) (by kernel_rfl) (fun _ _ _ _ _ h => h) (wgU rfl (yu 21 rfl n484.at_)) S448 (fun an485 n485 => ?_)
                refine h_not (i := 23) (fuel := 5) n485.ok rfl rfl rfl (by kernel_rfl) (by kernel_rfl) (by kernel_rfl) (fun _ _ _ _ _ h => h) (wgU rfl (yu 21 rfl (n485.ne rfl n484.at_))) S448 (fun an486 n486 => ?_)
                refine h_not (i := 24) (fuel := 4) n486.ok rfl rfl rfl (by kernel_rfl) (by kernel_rfl) (by kernel_rfl) (fun _ _ _ _ _ h => h) (wgU rfl (yu 21 rfl (n486.ne rfl (n485.ne rfl n484.at_)))) S448 (fun an487 n487 => ?_)
                have e488 := n487.ne rfl (n486.ne rfl (n485.ne rfl n484.at_))
                refine h_not (i := 25) (fuel := 3) n487.ok rfl rfl rfl (by kernel_rfl) (by kernel_rfl) (by kernel_rfl) (fun _ _ _ _ _ h => h) (wgU rfl (yu 21 rfl e488)) S448 (fun an489 n489 => ?_)
                refine h_not (i := 26) (fuel := 2) n489.ok rfl rfl rfl (by kernel_rfl) (by kernel_rfl) (by kernel_rfl) (fun _ _ _ _ _ h => h) (wgU rfl (yu 21 rfl (n489.ne rfl e488))) S448 (fun an490 n490 => ?_)
                have e491 := n490.ne rfl (n489.ne rfl (n487.ne rfl (n486.ne rfl (n485.ne rfl (n484.ne rfl (n483.ne rfl (n482.ne rfl e481)))))))
                refine h_not (i := 27) (fuel := 1) n490.ok rfl rfl rfl (by kernel_rfl) (by kernel_rfl) (by kernel_rfl) (fun _ _ _ _ _ h => h) (wgF rfl (yl 15 true rfl e491) rfl) S448 (fun an492 n492 => ?_)
                refine h_take (i := 28) (fuel := 0) n492.ok rfl rfl rfl (by kernel_rfl) (by kernel_rfl) (by kernel_rfl) (fun _ _ _ _ _ h => h) (wn _ rfl) (fun x hx => o_pkT (n492.ne rfl e491) ev_const) S448 (fun an493 n493 => ?_)
                refine wpAnyH_done (by kernel_rfl) ?_ _
                refine th_n (hK447 _ _ ?_)
                refine wp_cond_true (n493.at_) ?_
                refine wp_seq_k (fun K494 hK494 => ?_)
                refine wp_region_lit ?_
                refine sv n493.ok rfl (wn _ rfl) rfl (o_as ev_const) (fun an495 n495 => ?_)
                refine wpList_nil ?_
                refine th_n (hK494 _ _ ?_)
                refine wp_ret ?_
                refine th_r ?_
                refine ib_r ?_
                refine th_r ?_
                refine th_r ?_
                refine ib_r ?_
                refine th_r ?_
                have hwhy : yh414 < (cv (natsI V) (nh414 : Int).toNat : Int) + 2 ∨ (0 < k ∧ ¬ ltI (M.getD (k - 1) (0, 0)) ((nh414 : Int), yh414)) := by
                  rw [Int.toNat_natCast, ← hg]
                  by_cases q : yh414 < gv V i nh414 + 2
                  · exact .inl q
                  · exact .inr (lastD_lt hlaI401 (by omega) (by omega))
                exact ret1 n495.ok rfl (n495.at_) ⟨by rw [chk_dot hl hcv hbI401 (by omega) (badM_form h414x hdB hwhy) (by omega)], G451⟩
              · have e496 := (n466.at_).trans (congrArg Value.bool (decide_eq_false c467))
                have e497 := ((n466.ne rfl n465.at_)).trans (congrArg Value.bool (decide_eq_false c467))
                have e498 := n466.ne rfl (n465.ne rfl (n463.ne rfl (n462.ne rfl (n461.ne rfl (n459.ne rfl (n458.ne rfl (n457.ne rfl (n456.ne rfl e455))))))))
                refine h_take (i := 9) (fuel := 19) n466.ok rfl rfl rfl (by kernel_rfl) (by kernel_rfl) (by kernel_rfl) (fun _ _ _ _ _ h => h) (wgT rfl (yl 8 false rfl e496) rfl) (fun x hx => o_fa (z := 1) e498 Try.underlying26 rfl (by kernel_rfl) rfl rfl) S448 (fun an499 n499 => ?_)
                refine h_take (i := 10) (fuel := 18) n499.ok rfl rfl rfl (by kernel_rfl) (by kernel_rfl) (by kernel_rfl) (fun _ _ _ _ _ h => h) (wgT rfl (yl 8 false rfl (n499.ne rfl e496)) rfl) (fun x hx => o_ld n499.at_ (Try.isAgg3 _) ((Sx.bk hx B441 (by simp <;> omega)).cell _ rfl)) S448 (fun an500 n500 => ?_)
                have e501 := n500.ne rfl (n499.ne rfl (n466.ne rfl (n465.ne rfl (n463.ne rfl (n462.ne rfl (n461.ne rfl (n459.ne rfl (n458.ne rfl (n457.ne rfl (n456.ne rfl (n442.ne rfl (n435.ne rfl (n434.ne rfl (n417.ne rfl (n416.ne rfl (n415.ne rfl (n409.ne rfl s7I401)))))))))))))))))
                refine h_take (i := 11) (fuel := 17) n500.ok rfl rfl rfl (by kernel_rfl) (by kernel_rfl) (by kernel_rfl) (fun _ _ _ _ _ h => h) (wgT rfl (yl 8 false rfl (n500.ne rfl (n499.ne rfl e496))) rfl) (fun x hx => o_fa (z := 1) e501 Try.underlying26 rfl (by kernel_rfl) rfl rfl) S448 (fun an502 n502 => ?_)
                have e503 := n502.ne rfl (n500.ne rfl (n499.ne rfl e496))
                refine h_take (i := 12) (fuel := 16) n502.ok rfl rfl rfl (by kernel_rfl) (by kernel_rfl) (by kernel_rfl) (fun _ _ _ _ _ h => h) (wgT rfl (yl 8 false rfl e503) rfl) (fun x hx => o_ld n502.at_ (Try.isAgg3 _) ((Sx.bk hx B440 (by simp <;> omega)).cell _ rfl)) S448 (fun an504 n504 => ?_)
                refine h_take (i := 13) (fuel := 15) n504.ok rfl rfl rfl (by kernel_rfl) (by kernel_rfl) (by kernel_rfl) (fun _ _ _ _ _ h => h) (wgT rfl (yl 8 false rfl (n504.ne rfl e503)) rfl) (fun x hx => o_ltI (n504.ne rfl (n502.ne rfl n500.at_)) n504.at_) S448 (fun an505 n505 => ?_)
                refine h_take (i := 14) (fuel := 14) n505.ok rfl rfl rfl (by kernel_rfl) (by kernel_rfl) (by kernel_rfl) (fun _ _ _ _ _ h => h) (wn _ rfl) (fun x hx => o_pkF (n505.ne rfl (n504.ne rfl e503)) n505.at_) S448 (fun an506 n506 => ?_)
                refine h_take (i := 15) (fuel := 13) n506.ok rfl rfl rfl (by kernel_rfl) (by kernel_rfl) (by kernel_rfl) (fun _ _ _ _ _ h => h) (wn _ rfl) (fun x hx => o_mv n506.at_) S448 (fun an507 n507 => ?_)
                by_cases c508 : (nh414 : Int) < la
                · have e509 := (n507.at_).trans (congrArg Value.bool (decide_eq_true c508))
                  have e510 := ((n507.ne rfl (n506.ne rfl n505.at_))).trans (congrArg Value.bool (decide_eq_true c508))
                  have e511 := ((n507.ne rfl n506.at_)).trans (congrArg Value.bool (decide_eq_true c508))
                  refine h_not (i := 16) (fuel := 12) n507.ok rfl rfl rfl (by kernel_rfl) (by kernel_rfl) (by kernel_rfl) (fun _ _ _ _ _ h => h) (wgF rfl (yl 15 true rfl e509) rfl) S448 (fun an512 n512 => ?_)
                  refine h_not (i := 17) (fuel := 11) n512.ok rfl rfl rfl (by kernel_rfl) (by kernel_rfl) (by kernel_rfl) (fun _ _ _ _ _ h => h) (wgF rfl (yl 15 true rfl (n512.ne rfl e509)) rfl) S448 (fun an513 n513 => ?_)
                  refine h_not (i := 18) (fuel := 10) n513.ok rfl rfl rfl (by kernel_rfl) (by kernel_rfl) (by kernel_rfl) (fun _ _ _ _ _ h => h) (wgF rfl (yl 15 true rfl (n513.ne rfl (n512.ne rfl e509))) rfl) S448 (fun an514 n514 => ?_)
                  have e515 := n514.ne rfl (n513.ne rfl (n512.ne rfl e509))
                  refine h_not (i := 19) (fuel := 9) n514.ok rfl rfl rfl (by kernel_rfl) (by kernel_rfl) (by kernel_rfl) (fun _ _ _ _ _ h => h) (wgF rfl (yl 15 true rfl e515) rfl) S448 (fun an516 n516 => ?_)
                  refine h_not (i := 20) (fuel := 8) n516.ok rfl rfl rfl (by kernel_rfl) (by kernel_rfl) (by kernel_rfl) (fun _ _ _ _ _ h => h) (wgF rfl (yl 15 true rfl (n516.ne rfl e515)) rfl) S448 (fun an517 n517 => ?_)
                  refine h_not (i := 21) (fuel := 7) n517.ok rfl rfl rfl (by kernel_rfl) (by kernel_rfl) (by kernel_rfl) (fun _ _ _ _ _ h => h) (wgF rfl (yl 15 true rfl (n517.ne rfl (n516.ne rfl e515))) rfl) S448 (fun an518 n518 => ?_)
                  refine h_not (i := 22) (fuel := 6) n518.ok rfl rfl rfl (by kernel_rfl) (by kernel_rfl) (by kernel_rfl) (fun _ _ _ _ _ h => h) (wgU rfl (yu 21 rfl n518.at_)) S448 (fun an519 n519 => ?_)
                  refine h_not (i := 23) (fuel := 5) n519.ok rfl rfl rfl (by kernel_rfl) (by kernel_rfl) (by kernel_rfl) (fun _ _ _ _ _ h => h) (wgU rfl (yu 21 rfl (n519.ne rfl n518.at_))) S448 (fun an520 n520 => ?_)
                  refine h_not (i := 24) (fuel := 4) n520.ok rfl rfl rfl (by kernel_rfl) (by kernel_rfl) (by kernel_rfl) (fun _ _ _ _ _ h => h) (wgU rfl (yu 21 rfl (n520.ne rfl (n519.ne rfl n518.at_)))) S448 (fun an521 n521 => ?_)
                  have e522 := n521.ne rfl (n520.ne rfl (n519.ne rfl n518.at_))
                  refine h_not (i := 25) (fuel := 3) n521.ok rfl rfl rfl (by kernel_rfl) (by kernel_rfl) (by kernel_rfl) (fun _ _ _ _ _ h => h) (wgU rfl (yu 21 rfl e522)) S448 (fun an523 n523 => ?_)
                  refine h_not (i := 26) (fuel := 2) n523.ok rfl rfl rfl (by kernel_rfl) (by kernel_rfl) (by kernel_rfl) (fun _ _ _ _ _ h => h) (wgU rfl (yu 21 rfl (n523.ne rfl e522))) S448 (fun an524 n524 => ?_)
                  have e525 := n524.ne rfl (n523.ne rfl (n521.ne rfl (n520.ne rfl (n519.ne rfl (n518.ne rfl (n517.ne rfl (n516.ne rfl e515)))))))
                  refine h_not (i := 27) (fuel := 1) n524.ok rfl rfl rfl (by kernel_rfl) (by kernel_rfl) (by kernel_rfl) (fun _ _ _ _ _ h => h) (wgF rfl (yl 15 true rfl e525) rfl) S448 (fun an526 n526 => ?_)
                  refine h_take (i := 28) (fuel := 0) n526.ok rfl rfl rfl (by kernel_rfl) (by kernel_rfl) (by kernel_rfl) (fun _ _ _ _ _ h => h) (wn _ rfl) (fun x hx => o_pkT (n526.ne rfl e525) ev_const) S448 (fun an527 n527 => ?_)
                  refine wpAnyH_done (by kernel_rfl) ?_ _
                  refine th_n (hK447 _ _ ?_)
                  refine wp_cond_true (n527.at_) ?_
                  refine wp_seq_k (fun K528 hK528 => ?_)
                  refine wp_region_lit ?_
                  refine sv n527.ok rfl (wn _ rfl) rfl (o_as ev_const) (fun an529 n529 => ?_)
                  refine wpList_nil ?_
                  refine th_n (hK528 _ _ ?_)
                  refine wp_ret ?_
                  refine th_r ?_
                  refine ib_r ?_
                  refine th_r ?_
                  refine th_r ?_
                  refine ib_r ?_
                  refine th_r ?_
                  have hwhy : yh414 < (cv (natsI V) (nh414 : Int).toNat : Int) + 2 ∨ (0 < k ∧ ¬ ltI (M.getD (k - 1) (0, 0)) ((nh414 : Int), yh414)) := by
                    rw [Int.toNat_natCast, ← hg]
                    by_cases q : yh414 < gv V i nh414 + 2
                    · exact .inl q
                    · exact .inr (lastD_lt hlaI401 (by omega) (by omega))
                  exact ret1 n529.ok rfl (n529.at_) ⟨by rw [chk_dot hl hcv hbI401 (by omega) (badM_form h414x hdB hwhy) (by omega)], G451⟩
                · have e530 := (n507.at_).trans (congrArg Value.bool (decide_eq_false c508))
                  have e531 := ((n507.ne rfl (n506.ne rfl n505.at_))).trans (congrArg Value.bool (decide_eq_false c508))
                  have e532 := ((n507.ne rfl n506.at_)).trans (congrArg Value.bool (decide_eq_false c508))
                  have e533 := n507.ne rfl (n506.ne rfl (n505.ne rfl (n504.ne rfl (n502.ne rfl (n500.ne rfl (n499.ne rfl e498))))))
                  refine h_take (i := 16) (fuel := 12) n507.ok rfl rfl rfl (by kernel_rfl) (by kernel_rfl) (by kernel_rfl) (fun _ _ _ _ _ h => h) (wgT rfl (yl 15 false rfl e530) rfl) (fun x hx => o_fa (z := 1) e533 Try.underlying26 rfl (by kernel_rfl) rfl rfl) S448 (fun an534 n534 => ?_)
                  refine h_take (i := 17) (fuel := 11) n534.ok rfl rfl rfl (by kernel_rfl) (by kernel_rfl) (by kernel_rfl) (fun _ _ _ _ _ h => h) (wgT rfl (yl 15 false rfl (n534.ne rfl e530)) rfl) (fun x hx => o_ld n534.at_ (Try.isAgg3 _) ((Sx.bk hx B441 (by simp <;> omega)).cell _ rfl)) S448 (fun an535 n535 => ?_)
                  have e536 := n535.ne rfl (n534.ne rfl (n507.ne rfl (n506.ne rfl (n505.ne rfl (n504.ne rfl (n502.ne rfl e501))))))
                  refine h_take (i := 18) (fuel := 10) n535.ok rfl rfl rfl (by kernel_rfl) (by kernel_rfl) (by kernel_rfl) (fun _ _ _ _ _ h => h) (wgT rfl (yl 15 false rfl (n535.ne rfl (n534.ne rfl e530))) rfl) (fun x hx => o_fa (z := 1) e536 Try.underlying26 rfl (by kernel_rfl) rfl rfl) S448 (fun an537 n537 => ?_)
                  have e538 := n537.ne rfl (n535.ne rfl (n534.ne rfl e530))
                  refine h_take (i := 19) (fuel := 9) n537.ok rfl rfl rfl (by kernel_rfl) (by kernel_rfl) (by kernel_rfl) (fun _ _ _ _ _ h => h) (wgT rfl (yl 15 false rfl e538) rfl) (fun x hx => o_ld n537.at_ (Try.isAgg3 _) ((Sx.bk hx B440 (by simp <;> omega)).cell _ rfl)) S448 (fun an539 n539 => ?_)
                  refine h_take (i := 20) (fuel := 8) n539.ok rfl rfl rfl (by kernel_rfl) (by kernel_rfl) (by kernel_rfl) (fun _ _ _ _ _ h => h) (wgT rfl (yl 15 false rfl (n539.ne rfl e538)) rfl) (fun x hx => o_eqI (n539.ne rfl (n537.ne rfl n535.at_)) n539.at_) S448 (fun an540 n540 => ?_)
                  refine h_take (i := 21) (fuel := 7) n540.ok rfl rfl rfl (by kernel_rfl) (by kernel_rfl) (by kernel_rfl) (fun _ _ _ _ _ h => h) (wgT rfl (yl 15 false rfl (n540.ne rfl (n539.ne rfl e538))) rfl) (fun x hx => o_mv n540.at_) S448 (fun an541 n541 => ?_)
                  by_cases c542 : (nh414 : Int) = la
                  · have e543 := (n541.at_).trans (congrArg Value.bool (decide_eq_true c542))
                    have e544 := ((n541.ne rfl n540.at_)).trans (congrArg Value.bool (decide_eq_true c542))
                    have e545 := n541.ne rfl (n540.ne rfl (n539.ne rfl (n537.ne rfl (n535.ne rfl (n534.ne rfl e533)))))
                    refine h_take (i := 22) (fuel := 6) n541.ok rfl rfl rfl (by kernel_rfl) (by kernel_rfl) (by kernel_rfl) (fun _ _ _ _ _ h => h) (wgT rfl (yl 21 true rfl e543) rfl) (fun x hx => o_fa (z := 1) e545 Try.underlying26 rfl (by kernel_rfl) rfl rfl) S448 (fun an546 n546 => ?_)
                    refine h_take (i := 23) (fuel := 5) n546.ok rfl rfl rfl (by kernel_rfl) (by kernel_rfl) (by kernel_rfl) (fun _ _ _ _ _ h => h) (wgT rfl (yl 21 true rfl (n546.ne rfl e543)) rfl) (fun x hx => o_ld n546.at_ (Try.isAgg3 _) ((Sx.bk hx B441 (by simp <;> omega)).cell _ rfl)) S448 (fun an547 n547 => ?_)
                    have e548 := n547.ne rfl (n546.ne rfl (n541.ne rfl (n540.ne rfl (n539.ne rfl (n537.ne rfl e536)))))
                    refine h_take (i := 24) (fuel := 4) n547.ok rfl rfl rfl (by kernel_rfl) (by kernel_rfl) (by kernel_rfl) (fun _ _ _ _ _ h => h) (wgT rfl (yl 21 true rfl (n547.ne rfl (n546.ne rfl e543))) rfl) (fun x hx => o_fa (z := 1) e548 Try.underlying26 rfl (by kernel_rfl) rfl rfl) S448 (fun an549 n549 => ?_)
                    have e550 := n549.ne rfl (n547.ne rfl (n546.ne rfl e543))
                    refine h_take (i := 25) (fuel := 3) n549.ok rfl rfl rfl (by kernel_rfl) (by kernel_rfl) (by kernel_rfl) (fun _ _ _ _ _ h => h) (wgT rfl (yl 21 true rfl e550) rfl) (fun x hx => o_ld n549.at_ (Try.isAgg3 _) ((Sx.bk hx B440 (by simp <;> omega)).cell _ rfl)) S448 (fun an551 n551 => ?_)
                    refine h_take (i := 26) (fuel := 2) n551.ok rfl rfl rfl (by kernel_rfl) (by kernel_rfl) (by kernel_rfl) (fun _ _ _ _ _ h => h) (wgT rfl (yl 21 true rfl (n551.ne rfl e550)) rfl) (fun x hx => o_leI (n551.ne rfl (n549.ne rfl n547.at_)) n551.at_) S448 (fun an552 n552 => ?_)
                    have e553 := n552.ne rfl (n551.ne rfl (n549.ne rfl (n547.ne rfl (n546.ne rfl (n541.ne rfl (n540.ne rfl (n539.ne rfl e538)))))))
                    refine h_take (i := 27) (fuel := 1) n552.ok rfl rfl rfl (by kernel_rfl) (by kernel_rfl) (by kernel_rfl) (fun _ _ _ _ _ h => h) (wgT rfl (yl 15 false rfl e553) rfl) (fun x hx => o_pkT (n552.ne rfl (n551.ne rfl e550)) n552.at_) S448 (fun an554 n554 => ?_)
                    refine h_take (i := 28) (fuel := 0) n554.ok rfl rfl rfl (by kernel_rfl) (by kernel_rfl) (by kernel_rfl) (fun _ _ _ _ _ h => h) (wn _ rfl) (fun x hx => o_pkF (n554.ne rfl e553) n554.at_) S448 (fun an555 n555 => ?_)
                    refine wpAnyH_done (by kernel_rfl) ?_ _
                    refine th_n (hK447 _ _ ?_)
                    by_cases c556 : yh414 ≤ lb
                    · refine wp_cond_true ((n555.at_).trans (congrArg Value.bool (decide_eq_true c556))) ?_
                      refine wp_seq_k (fun K557 hK557 => ?_)
                      refine wp_region_lit ?_
                      refine sv n555.ok rfl (wn _ rfl) rfl (o_as ev_const) (fun an558 n558 => ?_)
                      refine wpList_nil ?_
                      refine th_n (hK557 _ _ ?_)
                      refine wp_ret ?_
                      refine th_r ?_
                      refine ib_r ?_
                      refine th_r ?_
                      refine th_r ?_
                      refine ib_r ?_
                      refine th_r ?_
                      have hwhy : yh414 < (cv (natsI V) (nh414 : Int).toNat : Int) + 2 ∨ (0 < k ∧ ¬ ltI (M.getD (k - 1) (0, 0)) ((nh414 : Int), yh414)) := by
                        rw [Int.toNat_natCast, ← hg]
                        by_cases q : yh414 < gv V i nh414 + 2
                        · exact .inl q
                        · exact .inr (lastD_lt hlaI401 (by omega) (by omega))
                      exact ret1 n558.ok rfl (n558.at_) ⟨by rw [chk_dot hl hcv hbI401 (by omega) (badM_form h414x hdB hwhy) (by omega)], G451⟩
                    · refine wp_cond_false ((n555.at_).trans (congrArg Value.bool (decide_eq_false c556))) ?_
                      refine wp_skip ?_
                      refine th_n (hK446 _ _ ?_)
                      refine wp_region_lit ?_
                      have e559 := n555.ne rfl (n554.ne rfl (n552.ne rfl (n551.ne rfl (n549.ne rfl (n547.ne rfl (n546.ne rfl e545))))))
                      refine sv n555.ok rfl (wn _ rfl) rfl (o_ldR e559 B454 Try.underlying26 rfl (by kernel_rfl)) (fun an560 n560 => ?_)
                      have e561 := n560.ne rfl (n555.ne rfl (n554.ne rfl (n552.ne rfl (n551.ne rfl (n549.ne rfl e548)))))
                      refine ssR rfl (wn _ rfl) (o_stR e561 n560.at_ B453 (by kernel_rfl) rfl (by simp [Value.oneCell'])) B453 (fun w562 u563 u563b => ?_)
                      have G564 : Gr w w562 := Below.upd G451 l385 u563
                      have B565 := B452.upd u563 (Nat.ne_of_lt l384)
                      have B566 := B454.upd u563 (Nat.ne_of_gt l422)
                      refine wpList_nil ?_
                      refine ib_n ?_
                      refine th_n (hK412 _ _ ?_)
                      refine wp_region_lit ?_
                      have e567 := n560.ne rfl (n555.ne rfl (n554.ne rfl (n552.ne rfl (n551.ne rfl (n549.ne rfl (n547.ne rfl (n546.ne rfl (n541.ne rfl (n540.ne rfl (n539.ne rfl (n537.ne rfl (n535.ne rfl (n534.ne rfl (n507.ne rfl (n506.ne rfl (n505.ne rfl (n504.ne rfl (n502.ne rfl (n500.ne rfl (n499.ne rfl (n466.ne rfl (n465.ne rfl (n463.ne rfl (n462.ne rfl (n461.ne rfl (n459.ne rfl (n458.ne rfl (n457.ne rfl (n456.ne rfl (n442.ne rfl (n435.ne rfl (n434.ne rfl (n417.ne rfl (n416.ne rfl (n415.ne rfl (n409.ne rfl s54I401))))))))))))))))))))))))))))))))))))
                      refine sv n560.ok rfl (wn _ rfl) rfl (o_add (r := ((k + 1 : Nat) : Int)) e567 ev_const (by omega) (by omega)) (fun an568 n568 => ?_)
                      refine sv n568.ok rfl (wn _ rfl) rfl (o_mv n568.at_) (fun an569 n569 => ?_)
                      refine wpList_nil ?_
                      have hok : badM (natsI V) M k = 0 := badM_ok h414x hdB (by
                        rintro (q | q)
                        · rw [Int.toNat_natCast, ← hg] at q; omega
                        · exact lastD_ge hlaI401 (by omega) q)
                      have e570 := n569.ne rfl (n568.ne rfl (n560.ne rfl (n555.ne rfl (n554.ne rfl (n552.ne rfl (n551.ne rfl (n549.ne rfl (n547.ne rfl (n546.ne rfl (n541.ne rfl (n540.ne rfl (n539.ne rfl (n537.ne rfl (n535.ne rfl (n534.ne rfl (n507.ne rfl (n506.ne rfl (n505.ne rfl (n504.ne rfl (n502.ne rfl (n500.ne rfl (n499.ne rfl (n466.ne rfl (n465.ne rfl (n463.ne rfl (n462.ne rfl (n461.ne rfl (n459.ne rfl (n458.ne rfl (n457.ne rfl (n456.ne rfl (n442.ne rfl (n435.ne rfl (n434.ne rfl (n417.ne rfl (n416.ne rfl (n415.ne rfl (n409.ne rfl s2I401))))))))))))))))))))))))))))))))))))))
                      have e571 := n569.ne rfl (n568.ne rfl (n560.ne rfl (n555.ne rfl (n554.ne rfl (n552.ne rfl (n551.ne rfl (n549.ne rfl (n547.ne rfl (n546.ne rfl (n541.ne rfl (n540.ne rfl (n539.ne rfl (n537.ne rfl (n535.ne rfl (n534.ne rfl (n507.ne rfl (n506.ne rfl (n505.ne rfl (n504.ne rfl (n502.ne rfl (n500.ne rfl (n499.ne rfl (n466.ne rfl (n465.ne rfl (n463.ne rfl (n462.ne rfl (n461.ne rfl e460)))))))))))))))))))))))))))
                      have e572 := n569.ne rfl (n568.ne rfl (n560.ne rfl (n555.ne rfl (n554.ne rfl (n552.ne rfl (n551.ne rfl (n549.ne rfl (n547.ne rfl (n546.ne rfl (n541.ne rfl (n540.ne rfl (n539.ne rfl (n537.ne rfl (n535.ne rfl (n534.ne rfl (n507.ne rfl (n506.ne rfl (n505.ne rfl (n504.ne rfl (n502.ne rfl (n500.ne rfl (n499.ne rfl (n466.ne rfl (n465.ne rfl (n463.ne rfl (n462.ne rfl (n461.ne rfl (n459.ne rfl (n458.ne rfl (n457.ne rfl (n456.ne rfl (n442.ne rfl (n435.ne rfl (n434.ne rfl (n417.ne rfl (n416.ne rfl (n415.ne rfl (n409.ne rfl s52I401))))))))))))))))))))))))))))))))))))))
                      have e573 := n569.ne rfl (n568.ne rfl (n560.ne rfl (n555.ne rfl (n554.ne rfl (n552.ne rfl (n551.ne rfl (n549.ne rfl (n547.ne rfl (n546.ne rfl (n541.ne rfl (n540.ne rfl (n539.ne rfl (n537.ne rfl (n535.ne rfl (n534.ne rfl (n507.ne rfl (n506.ne rfl (n505.ne rfl (n504.ne rfl (n502.ne rfl (n500.ne rfl (n499.ne rfl (n466.ne rfl (n465.ne rfl (n463.ne rfl (n462.ne rfl (n461.ne rfl (n459.ne rfl (n458.ne rfl (n457.ne rfl (n456.ne rfl (n442.ne rfl (n435.ne rfl (n434.ne rfl (n417.ne rfl (n416.ne rfl (n415.ne rfl (n409.ne rfl s53I401))))))))))))))))))))))))))))))))))))))
                      exact th_n (hKI401 _ _ _ (by omega) ⟨k + 1, nh414, yh414, rfl, n569.ok, G564, e570, e571, (n569.ne rfl (n568.ne rfl e561)), e572, e573, n569.at_, B565, u563b, by omega, all_up hbI401 hok, .inr ⟨by omega, h414x⟩⟩)
                  · have e574 := (n541.at_).trans (congrArg Value.bool (decide_eq_false c542))
                    have e575 := ((n541.ne rfl n540.at_)).trans (congrArg Value.bool (decide_eq_false c542))
                    refine h_not (i := 22) (fuel := 6) n541.ok rfl rfl rfl (by kernel_rfl) (by kernel_rfl) (by kernel_rfl) (fun _ _ _ _ _ h => h) (wgF rfl (yl 21 false rfl e574) rfl) S448 (fun an576 n576 => ?_)
                    refine h_not (i := 23) (fuel := 5) n576.ok rfl rfl rfl (by kernel_rfl) (by kernel_rfl) (by kernel_rfl) (fun _ _ _ _ _ h => h) (wgF rfl (yl 21 false rfl (n576.ne rfl e574)) rfl) S448 (fun an577 n577 => ?_)
                    refine h_not (i := 24) (fuel := 4) n577.ok rfl rfl rfl (by kernel_rfl) (by kernel_rfl) (by kernel_rfl) (fun _ _ _ _ _ h => h) (wgF rfl (yl 21 false rfl (n577.ne rfl (n576.ne rfl e574))) rfl) S448 (fun an578 n578 => ?_)
                    have e579 := n578.ne rfl (n577.ne rfl (n576.ne rfl e574))
                    refine h_not (i := 25) (fuel := 3) n578.ok rfl rfl rfl (by kernel_rfl) (by kernel_rfl) (by kernel_rfl) (fun _ _ _ _ _ h => h) (wgF rfl (yl 21 false rfl e579) rfl) S448 (fun an580 n580 => ?_)
                    refine h_not (i := 26) (fuel := 2) n580.ok rfl rfl rfl (by kernel_rfl) (by kernel_rfl) (by kernel_rfl) (fun _ _ _ _ _ h => h) (wgF rfl (yl 21 false rfl (n580.ne rfl e579)) rfl) S448 (fun an581 n581 => ?_)
                    have e582 := n581.ne rfl (n580.ne rfl (n578.ne rfl (n577.ne rfl (n576.ne rfl (n541.ne rfl (n540.ne rfl (n539.ne rfl e538)))))))
                    refine h_take (i := 27) (fuel := 1) n581.ok rfl rfl rfl (by kernel_rfl) (by kernel_rfl) (by kernel_rfl) (fun _ _ _ _ _ h => h) (wgT rfl (yl 15 false rfl e582) rfl) (fun x hx => o_pkF (n581.ne rfl (n580.ne rfl e579)) ev_const) S448 (fun an583 n583 => ?_)
                    refine h_take (i := 28) (fuel := 0) n583.ok rfl rfl rfl (by kernel_rfl) (by kernel_rfl) (by kernel_rfl) (fun _ _ _ _ _ h => h) (wn _ rfl) (fun x hx => o_pkF (n583.ne rfl e582) n583.at_) S448 (fun an584 n584 => ?_)
                    refine wpAnyH_done (by kernel_rfl) ?_ _
                    refine th_n (hK447 _ _ ?_)
                    refine wp_cond_false (n584.at_) ?_
                    refine wp_skip ?_
                    refine th_n (hK446 _ _ ?_)
                    refine wp_region_lit ?_
                    have e585 := n584.ne rfl (n583.ne rfl (n581.ne rfl (n580.ne rfl (n578.ne rfl (n577.ne rfl (n576.ne rfl (n541.ne rfl (n540.ne rfl (n539.ne rfl (n537.ne rfl (n535.ne rfl (n534.ne rfl e533))))))))))))
                    refine sv n584.ok rfl (wn _ rfl) rfl (o_ldR e585 B454 Try.underlying26 rfl (by kernel_rfl)) (fun an586 n586 => ?_)
                    have e587 := n586.ne rfl (n584.ne rfl (n583.ne rfl (n581.ne rfl (n580.ne rfl (n578.ne rfl (n577.ne rfl (n576.ne rfl (n541.ne rfl (n540.ne rfl (n539.ne rfl (n537.ne rfl e536)))))))))))
                    refine ssR rfl (wn _ rfl) (o_stR e587 n586.at_ B453 (by kernel_rfl) rfl (by simp [Value.oneCell'])) B453 (fun w588 u589 u589b => ?_)
                    have G590 : Gr w w588 := Below.upd G451 l385 u589
                    have B591 := B452.upd u589 (Nat.ne_of_lt l384)
                    have B592 := B454.upd u589 (Nat.ne_of_gt l422)
                    refine wpList_nil ?_
                    refine ib_n ?_
                    refine th_n (hK412 _ _ ?_)
                    refine wp_region_lit ?_
                    have e593 := n586.ne rfl (n584.ne rfl (n583.ne rfl (n581.ne rfl (n580.ne rfl (n578.ne rfl (n577.ne rfl (n576.ne rfl (n541.ne rfl (n540.ne rfl (n539.ne rfl (n537.ne rfl (n535.ne rfl (n534.ne rfl (n507.ne rfl (n506.ne rfl (n505.ne rfl (n504.ne rfl (n502.ne rfl (n500.ne rfl (n499.ne rfl (n466.ne rfl (n465.ne rfl (n463.ne rfl (n462.ne rfl (n461.ne rfl (n459.ne rfl (n458.ne rfl (n457.ne rfl (n456.ne rfl (n442.ne rfl (n435.ne rfl (n434.ne rfl (n417.ne rfl (n416.ne rfl (n415.ne rfl (n409.ne rfl s54I401))))))))))))))))))))))))))))))))))))
                    refine sv n586.ok rfl (wn _ rfl) rfl (o_add (r := ((k + 1 : Nat) : Int)) e593 ev_const (by omega) (by omega)) (fun an594 n594 => ?_)
                    refine sv n594.ok rfl (wn _ rfl) rfl (o_mv n594.at_) (fun an595 n595 => ?_)
                    refine wpList_nil ?_
                    have hok : badM (natsI V) M k = 0 := badM_ok h414x hdB (by
                      rintro (q | q)
                      · rw [Int.toNat_natCast, ← hg] at q; omega
                      · exact lastD_ge hlaI401 (by omega) q)
                    have e596 := n595.ne rfl (n594.ne rfl (n586.ne rfl (n584.ne rfl (n583.ne rfl (n581.ne rfl (n580.ne rfl (n578.ne rfl (n577.ne rfl (n576.ne rfl (n541.ne rfl (n540.ne rfl (n539.ne rfl (n537.ne rfl (n535.ne rfl (n534.ne rfl (n507.ne rfl (n506.ne rfl (n505.ne rfl (n504.ne rfl (n502.ne rfl (n500.ne rfl (n499.ne rfl (n466.ne rfl (n465.ne rfl (n463.ne rfl (n462.ne rfl (n461.ne rfl (n459.ne rfl (n458.ne rfl (n457.ne rfl (n456.ne rfl (n442.ne rfl (n435.ne rfl (n434.ne rfl (n417.ne rfl (n416.ne rfl (n415.ne rfl (n409.ne rfl s2I401))))))))))))))))))))))))))))))))))))))
                    have e597 := n595.ne rfl (n594.ne rfl (n586.ne rfl (n584.ne rfl (n583.ne rfl (n581.ne rfl (n580.ne rfl (n578.ne rfl (n577.ne rfl (n576.ne rfl (n541.ne rfl (n540.ne rfl (n539.ne rfl (n537.ne rfl (n535.ne rfl (n534.ne rfl (n507.ne rfl (n506.ne rfl (n505.ne rfl (n504.ne rfl (n502.ne rfl (n500.ne rfl (n499.ne rfl (n466.ne rfl (n465.ne rfl (n463.ne rfl (n462.ne rfl (n461.ne rfl e460)))))))))))))))))))))))))))
                    have e598 := n595.ne rfl (n594.ne rfl (n586.ne rfl (n584.ne rfl (n583.ne rfl (n581.ne rfl (n580.ne rfl (n578.ne rfl (n577.ne rfl (n576.ne rfl (n541.ne rfl (n540.ne rfl (n539.ne rfl (n537.ne rfl (n535.ne rfl (n534.ne rfl (n507.ne rfl (n506.ne rfl (n505.ne rfl (n504.ne rfl (n502.ne rfl (n500.ne rfl (n499.ne rfl (n466.ne rfl (n465.ne rfl (n463.ne rfl (n462.ne rfl (n461.ne rfl (n459.ne rfl (n458.ne rfl (n457.ne rfl (n456.ne rfl (n442.ne rfl (n435.ne rfl (n434.ne rfl (n417.ne rfl (n416.ne rfl (n415.ne rfl (n409.ne rfl s52I401))))))))))))))))))))))))))))))))))))))
                    have e599 := n595.ne rfl (n594.ne rfl (n586.ne rfl (n584.ne rfl (n583.ne rfl (n581.ne rfl (n580.ne rfl (n578.ne rfl (n577.ne rfl (n576.ne rfl (n541.ne rfl (n540.ne rfl (n539.ne rfl (n537.ne rfl (n535.ne rfl (n534.ne rfl (n507.ne rfl (n506.ne rfl (n505.ne rfl (n504.ne rfl (n502.ne rfl (n500.ne rfl (n499.ne rfl (n466.ne rfl (n465.ne rfl (n463.ne rfl (n462.ne rfl (n461.ne rfl (n459.ne rfl (n458.ne rfl (n457.ne rfl (n456.ne rfl (n442.ne rfl (n435.ne rfl (n434.ne rfl (n417.ne rfl (n416.ne rfl (n415.ne rfl (n409.ne rfl s53I401))))))))))))))))))))))))))))))))))))))
                    exact th_n (hKI401 _ _ _ (by omega) ⟨k + 1, nh414, yh414, rfl, n595.ok, G590, e596, e597, (n595.ne rfl (n594.ne rfl e587)), e598, e599, n595.at_, B591, u589b, by omega, all_up hbI401 hok, .inr ⟨by omega, h414x⟩⟩)
          · refine wp_cond_false ((n409.at_).trans (congrArg Value.bool (decide_eq_false c411))) ?_
            refine wp_exit ?_
            refine th_x ?_
            refine th_x ?_
            refine ib_x ?_
            refine th_n (hK394 _ _ ?_)
            refine wp_seq_k (fun K600 hK600 => ?_)
            refine wp_region_lit ?_
            refine sv n409.ok rfl (wn _ rfl) rfl (o_as ev_const) (fun an601 n601 => ?_)
            refine wpList_nil ?_
            refine th_n (hK600 _ _ ?_)
            refine wp_ret ?_
            exact ret1 n601.ok rfl (n601.at_) ⟨by rw [chk_ok hl hcv (fun j hj => hbI401 j (by omega))], GI401⟩
theorem rknow_any (k : Value) (V : List Int) (M : List (Int × Int)) (w : World) (hk : KnR w k V M) : Calls Try.prog 41 #[k] w fun e w' => e = .returned (.int .i64 (chkK V M)) ∧ Gr w w' := by
  obtain ⟨va, vc, ma, mc, rfl, hv, hm⟩ := knr_form hk
  exact rknow_k va ma vc mc V M w hv hm
end Go.Proofs.Ytghjfakellaecaa
