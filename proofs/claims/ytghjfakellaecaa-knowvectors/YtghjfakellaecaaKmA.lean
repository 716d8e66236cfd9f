/- The document's sets of dots: All, Size, Formed. -/
import Derived.Test.YtghjfakellaecaaDjA
import Derived.Test.YtghjfakellaecaaFmA
set_option linter.unusedVariables false
set_option linter.unusedSimpArgs false
namespace Rm
open Go Go.RowKit Gx
theorem ne_nil_of_lt {α : Type} {l : List α} {i : Nat} (h : i < l.length) : l ≠ [] := fun e => by rw [e] at h; cases h
def RdI1 (w : World) (a : Option Addr) (V : List Int) : Prop := V ≠ [] → ∃ b off, a = some ⟨b, off, none⟩ ∧ b < w.heap.size ∧ ∀ i x, V[i]? = some x → w.cell? ⟨b, off + i * 1, none⟩ = some (.int .i64 x)
def RdDI (w : World) (a : Option Addr) (M : List (Int × Int)) : Prop := M ≠ [] → ∃ b off, a = some ⟨b, off, none⟩ ∧ b < w.heap.size ∧ ∀ i (p : Int × Int), M[i]? = some p → w.cell? ⟨b, off + i * 2, none⟩ = some (.int .i64 p.1) ∧ w.cell? ⟨b, off + i * 2 + 1, none⟩ = some (.int .i64 p.2)
def RdN1 (w : World) (a : Option Addr) (V : List Nat) : Prop := V ≠ [] → ∃ b off, a = some ⟨b, off, none⟩ ∧ b < w.heap.size ∧ ∀ (i : Nat) (x : Nat), V[i]? = some x → w.cell? ⟨b, off + i * 1, none⟩ = some (.int .i64 (x : Int))
def RdDN (w : World) (a : Option Addr) (M : List (Nat × Nat)) : Prop := M ≠ [] → ∃ b off, a = some ⟨b, off, none⟩ ∧ b < w.heap.size ∧ ∀ i (p : Nat × Nat), M[i]? = some p → w.cell? ⟨b, off + i * 2, none⟩ = some (.int .i64 (p.1 : Int)) ∧ w.cell? ⟨b, off + i * 2 + 1, none⟩ = some (.int .i64 (p.2 : Int))
theorem RdI1.nat {w : World} {a : Option Addr} {V : List Nat} (h : RdI1 w a (ints V)) : RdN1 w a V := fun hn => by
  obtain ⟨b, off, h1, h2, h3⟩ := h (by simpa [ints] using hn)
  exact ⟨b, off, h1, h2, fun i x hx => h3 i _ (ints_at hx)⟩
theorem RdDI.nat {w : World} {a : Option Addr} {M : List (Nat × Nat)} (h : RdDI w a (pairs M)) : RdDN w a M := fun hn => by
  obtain ⟨b, off, h1, h2, h3⟩ := h (by simpa [pairs] using hn)
  exact ⟨b, off, h1, h2, fun i p hx => h3 i ((p.1 : Int), (p.2 : Int)) (by simp [pairs, hx])⟩
theorem knr_form {w : World} {k : Value} {V : List Int} {M : List (Int × Int)} (h : KnR w k V M) : ∃ va vc ma mc, k = .agg #[.slice va V.length vc, .slice ma M.length mc] ∧ RdI1 w va V ∧ RdDI w ma M := by
  obtain ⟨vv, mv, rfl, ⟨va, vc, rfl, -, hv⟩, ⟨ma, mc, rfl, -, hm⟩, -⟩ := h
  refine ⟨va, vc, ma, mc, rfl, fun hn => ?_, hm⟩
  obtain ⟨b, off, e, hb, hx⟩ := hv hn
  exact ⟨b, off, e, hb, fun i x h => by rw [Nat.mul_one]; exact hx i x h⟩
theorem two_cells {w : World} {b k : Nat} {x y : Value} (h1 : w.cell? ⟨b, k, none⟩ = some x) (h2 : w.cell? ⟨b, k + 1, none⟩ = some y) : ∀ j v, ([x, y] : List Value)[j]? = some v → w.cell? ⟨b, k + j, none⟩ = some v := by
  intro j v hv
  match j, hv with
  | 0, hv => simp at hv; subst hv; exact h1
  | 1, hv => simp at hv; subst hv; exact h2
  | j + 2, hv => simp at hv
theorem cells_to {w w' : World} {b k : Nat} {cs : List Value} (h : ∀ j, w'.cell? ⟨b, j, none⟩ = w.cell? ⟨b, j, none⟩) (hc : ∀ j v, cs[j]? = some v → w.cell? ⟨b, k + j, none⟩ = some v) : ∀ j v, cs[j]? = some v → w'.cell? ⟨b, k + j, none⟩ = some v :=
  fun j v hv => (h _).trans (hc j v hv)
theorem cv_at {v : List Nat} {i x : Nat} (h : v[i]? = some x) : cv v i = x := by simp [cv, List.getD, h]
theorem withX_off (X : Nat → Nat) (i c : Nat) : (fun q => if q = 0 + i * 16 + (c / 64) * 1 then X (0 + i * 16 + (c / 64) * 1) ||| 2 ^ (c % 64) else X q) = withX X i c := by
  funext q
  unfold withX
  rw [Nat.zero_add, Nat.mul_one]
  by_cases e : q = i * 16 + c / 64
  · rw [if_pos e, if_pos e, e]
  · rw [if_neg e, if_neg e]
theorem all_step {X : Nat → Nat} {v : List Nat} {i c : Nat} (hc : c < 1024) (h1 : 1 ≤ c)
    (h : ∀ s q, s < 5 → q < 1024 → dsX X s q = decide (s < i ∧ 1 ≤ q ∧ q ≤ cv v s ∨ s = i ∧ 1 ≤ q ∧ q < c)) :
    ∀ s q, s < 5 → q < 1024 → dsX (withX X i c) s q = decide (s < i ∧ 1 ≤ q ∧ q ≤ cv v s ∨ s = i ∧ 1 ≤ q ∧ q < c + 1) := by
  intro s q hs hq
  rw [dsX_with X i c s q hc hq, h s q hs hq, Bool.eq_iff_iff]
  simp only [Bool.or_eq_true, decide_eq_true_eq]
  omega
theorem all_next {X : Nat → Nat} {v : List Nat} {i c x : Nat} (hx : cv v i = x) (hc : c = x + 1)
    (h : ∀ s q, s < 5 → q < 1024 → dsX X s q = decide (s < i ∧ 1 ≤ q ∧ q ≤ cv v s ∨ s = i ∧ 1 ≤ q ∧ q < c)) :
    ∀ s q, s < 5 → q < 1024 → dsX X s q = decide (s < i + 1 ∧ 1 ≤ q ∧ q ≤ cv v s) := by
  intro s q hs hq
  rw [h s q hs hq, Bool.eq_iff_iff]
  simp only [decide_eq_true_eq]
  by_cases e : s = i
  · subst e; omega
  · omega
theorem all_mid {X : Nat → Nat} {v : List Nat} {n : Nat} (hn : v.length ≤ n)
    (h : ∀ s q, s < 5 → q < 1024 → dsX X s q = decide (s < n ∧ 1 ≤ q ∧ q ≤ cv v s)) (m : List (Nat × Nat)) :
    ∀ s q, s < 5 → q < 1024 → dsX X s q = memB v (m.take 0) s q := by
  intro s q hs hq
  rw [h s q hs hq, Bool.eq_iff_iff, memB_iff]
  simp only [decide_eq_true_eq, List.take_zero, List.not_mem_nil, or_false]
  by_cases e : s < n
  · omega
  · have := cv_out (v := v) (s := s) (by omega)
    omega
theorem all_more {X : Nat → Nat} {v : List Nat} {m : List (Nat × Nat)} {k x y : Nat} (hm : m[k]? = some (x, y)) (hy : y < 1024)
    (h : ∀ s q, s < 5 → q < 1024 → dsX X s q = memB v (m.take k) s q) :
    ∀ s q, s < 5 → q < 1024 → dsX (withX X x y) s q = memB v (m.take (k + 1)) s q := by
  intro s q hs hq
  rw [dsX_with X x y s q hy hq, h s q hs hq, Bool.eq_iff_iff]
  simp only [Bool.or_eq_true, memB_iff, decide_eq_true_eq]
  rw [List.take_add_one, hm]
  simp only [Option.toList_some, List.mem_append, List.mem_singleton, Prod.mk.injEq]
  constructor
  · rintro ((q1 | q1) | q1)
    · exact .inl q1
    · exact .inr (.inl q1)
    · exact .inr (.inr q1)
  · rintro (q1 | q1 | q1)
    · exact .inl (.inl q1)
    · exact .inl (.inr q1)
    · exact .inr q1
theorem pow_lt64 (r : Nat) (h : r < 64) : 2 ^ r < 2 ^ 64 := Nat.pow_lt_pow_right (by omega) h
end Rm
namespace Gx
open Go Go.RowKit Rm
theorem Sx.cell {bs : List Nat} {w x : World} {b o : Nat} (h : Sx bs w x) (hn : b ∉ bs) : x.cell? ⟨b, o, none⟩ = w.cell? ⟨b, o, none⟩ := by
  unfold World.cell?
  rw [h b hn]
section
variable {P : Program} {ev : Operand → Value} {d : Option Tmp} {ty : TypeId} {p : String} {af : Array Edge} {g : Option (Nat × Bool)} {w : World}
theorem o_shlU {t t' : TypeId} {x y : Operand} {j : Nat} (hx : ev x = .int .u64 1) (hy : ev y = .int .i64 (j : Int)) (hj : j < 64) : (execOp ev (Oper.mk d (.binOp .shl t x y t') ty p af g)).run Go.Proofs.Try.prog w = .ok (.value (.int .u64 ((2 ^ j : Nat) : Int))) w := by
  have h := Go.Proofs.Ytghjfakellaecaa.shl64 t j hj w
  have h3 : 2 ^ j < 2 ^ 64 := Nat.pow_lt_pow_right (by omega) hj
  have h2 : IntKind.u64.wrap ((2 : Int) ^ j) = (2 : Int) ^ j := by
    rw [show (2 : Int) ^ j = ((2 ^ j : Nat) : Int) by simp]
    exact IntWalk.u64_in _ ⟨Int.natCast_nonneg _, by omega⟩
  simp [execOp, hx, hy, eqGuard, h, h2, go_sem]
end
end Gx
namespace Go.Proofs.Ytghjfakellaecaa
open Go.RowKit Rm Gx
set_option maxHeartbeats 8000000 in
set_option maxRecDepth 100000 in
theorem rall_k (va ma : Option Addr) (vc mc : Nat) (v : List Nat) (m : List (Nat × Nat)) (ok : OkV v m) (hl : m.length ≤ 60) (w : World) (hv : RdN1 w va v) (hm : RdDN w ma m) :
    Calls Try.prog 48 #[.agg #[.slice va v.length vc, .slice ma m.length mc]] w fun e w' => ∃ X, e = .returned (.agg (wArr X)) ∧ OkX X ∧ (∀ s q, s < 5 → q < 1024 → dsX X s q = memB v m s q) ∧ Gr w w' := by
  refine enter (N := 47) Try.func48 rfl rfl rfl (fun a0 ok0 h0 => ?_)
  have e0_0 : a0.eval (.tmp 0) = .agg #[.slice va v.length vc, .slice ma m.length mc] := h0 0 _ rfl
  clear h0
  have G0 := Gr.refl w
  refine wp_seq_k (fun K1 hK1 => ?_)
  refine wp_region_lit ?_
  refine sal (cs := #[.slice va v.length vc, .slice ma m.length mc]) ok0 rfl (wn _ rfl) rfl (o_box e0_0) (fun an2 w4 b3 W5 n2 => ?_)
  have l6 : w.heap.size ≤ b3 := by rw [W5.eq]; exact G0.size
  have G7 := G0.trans W5.gr
  refine sal (cs := wArr (fun _ => 0)) n2.ok rfl (wn _ rfl) rfl (o_al (z := .agg (wArr (fun _ => 0))) dots_zero) (fun an8 w10 b9 W11 n8 => ?_)
  have l12 : b3 < b9 := by rw [W11.eq]; exact W5.bk.lt
  have l13 : w.heap.size ≤ b9 := by rw [W11.eq]; exact G7.size
  have G14 := G7.trans W11.gr
  have B15 := W5.bk.gr W11.gr
  refine wpList_nil ?_
  refine th_n (hK1 _ _ ?_)
  refine wp_seq_k (fun K16 hK16 => ?_)
  refine wp_region_lit ?_
  refine sal (cs := wArr (fun _ => 0)) n8.ok rfl (wn _ rfl) rfl (o_al (z := .agg (wArr (fun _ => 0))) dots_zero) (fun an17 w19 b18 W20 n17 => ?_)
  have l21 : b3 < b18 := by rw [W20.eq]; exact B15.lt
  have l22 : b9 < b18 := by rw [W20.eq]; exact W11.bk.lt
  have l23 : w.heap.size ≤ b18 := by rw [W20.eq]; exact G14.size
  have G24 := G14.trans W20.gr
  have B25 := B15.gr W20.gr
  have B26 := W11.bk.gr W20.gr
  refine wpList_nil ?_
  refine th_n (hK16 _ _ ?_)
  refine wp_seq_k (fun K27 hK27 => ?_)
  refine wp_seq_k (fun K28 hK28 => ?_)
  refine wp_region_lit ?_
  refine sv n17.ok rfl (wn _ rfl) rfl (o_fa (z := 1) (n17.ne rfl (n8.ne rfl n2.at_)) Try.underlying35 rfl (by kernel_rfl) rfl rfl) (fun an29 n29 => ?_)
  refine sv n29.ok rfl (wn _ rfl) rfl (o_ld n29.at_ (Try.isAgg32 _) (B25.cell _ rfl)) (fun an30 n30 => ?_)
  refine sv n30.ok rfl (wn _ rfl) rfl (o_len n30.at_ Try.underlying32) (fun an31 n31 => ?_)
  refine sv n31.ok rfl (wn _ rfl) rfl (o_mv ev_const) (fun an32 n32 => ?_)
  refine wpList_nil ?_
  refine th_n (hK28 _ _ ?_)
  refine wp_block ?_
  have e34 := n32.ne rfl (n31.ne rfl (n30.ne rfl (n29.ne rfl (n17.ne rfl (n8.ne rfl n2.at_)))))
  have e35 := n32.ne rfl (n31.ne rfl (n30.ne rfl (n29.ne rfl (n17.ne rfl n8.at_))))
  have e36 := n32.ne rfl (n31.ne rfl (n30.ne rfl (n29.ne rfl n17.at_)))
  refine lp (fun (nL : Nat) (aL : Act) (wL : World) => ∃ i : Nat, ∃ X : Nat → Nat, nL = v.length - i ∧ Ok 47 aL ∧ Gr w wL ∧ (aL.eval (.tmp 1) = .pointer (some ⟨b3, 0, none⟩)) ∧ (aL.eval (.tmp 2) = .pointer (some ⟨b9, 0, none⟩)) ∧ (aL.eval (.tmp 3) = .pointer (some ⟨b18, 0, none⟩)) ∧ (aL.eval (.tmp 10) = .slice va v.length vc) ∧ (aL.eval (.tmp 11) = .int .i64 ((v.length : Nat) : Int)) ∧ (aL.eval (.tmp 12) = .int .i64 (i : Int)) ∧ (Bk wL b3 #[.slice va v.length vc, .slice ma m.length mc] 35) ∧ (Bk wL b9 (wArr (fun _ => 0)) 86) ∧ (Bk wL b18 (wArr X) 86) ∧ (i ≤ v.length) ∧ (OkX X) ∧ (∀ s q, s < 5 → q < 1024 → dsX X s q = decide (s < i ∧ 1 ≤ q ∧ q ≤ cv v s))) _ ⟨0, (fun _ => 0), rfl, n32.ok, G24, e34, e35, e36, (n32.ne rfl (n31.ne rfl n30.at_)), (n32.ne rfl n31.at_), n32.at_, B25, B26, W20.bk, by omega, OkX.zero, fun s q h1 h2 => by rw [dsX_zero]; simp⟩ ?_
  rintro m37 aI33 w39 ⟨i, X, hmI33, okI33, GI33, s1I33, s2I33, s3I33, s10I33, s11I33, s12I33, kb3I33, kb9I33, kb18I33, hiI33, hXI33, hDI33⟩ KI33 hKI33
  refine wp_seq_k (fun K40 hK40 => ?_)
  refine wp_region_lit ?_
  refine sv okI33 rfl (wn _ rfl) rfl (o_ltI s12I33 s11I33) (fun an41 n41 => ?_)
  refine wpList_nil ?_
  refine th_n (hK40 _ _ ?_)
  refine wp_seq_k (fun K42 hK42 => ?_)
  by_cases c43 : (i : Int) < ((v.length : Nat) : Int)
  · refine wp_cond_true ((n41.at_).trans (congrArg Value.bool (decide_eq_true c43))) ?_
    refine wp_skip ?_
    refine th_n (hK42 _ _ ?_)
    refine wp_seq_k (fun K44 hK44 => ?_)
    refine wp_block ?_
    refine wp_seq_k (fun K45 hK45 => ?_)
    refine wp_region_lit ?_
    refine sv n41.ok rfl (wn _ rfl) rfl (o_mv (n41.ne rfl s12I33)) (fun an46 n46 => ?_)
    have h47l : i < List.length v := by omega
    obtain ⟨bh47, fh47, h47a, h47b, h47c⟩ := hv (ne_nil_of_lt h47l)
    obtain ⟨xh47, h47x⟩ : ∃ x, v[i]? = some x := ⟨_, List.getElem?_eq_getElem h47l⟩
    have hleh47 : xh47 ≤ 1000 := ok.le _ (List.mem_of_getElem? h47x)
    have hcv := cv_at h47x
    have hlen5 := ok.len
    refine sv n46.ok rfl (wn _ rfl) rfl (o_iaV (i := i) (s := 1) h47a (n46.ne rfl (n41.ne rfl s10I33)) (n46.ne rfl (n41.ne rfl s12I33)) Try.underlying32 (by kernel_rfl) h47l) (fun an48 n48 => ?_)
    refine sv n48.ok rfl (wn _ rfl) rfl (o_ld n48.at_ (Try.isAgg3 _) ((Below.cell GI33 h47b).trans (h47c _ _ h47x))) (fun an49 n49 => ?_)
    refine sv n49.ok rfl (wn _ rfl) rfl (o_as (n49.ne rfl (n48.ne rfl n46.at_))) (fun an50 n50 => ?_)
    refine sv n50.ok rfl (wn _ rfl) rfl (o_as (n50.ne rfl n49.at_)) (fun an51 n51 => ?_)
    refine wpList_nil ?_
    refine th_n (hK45 _ _ ?_)
    refine wp_seq_k (fun K52 hK52 => ?_)
    refine wp_region_lit ?_
    refine sv n51.ok rfl (wn _ rfl) rfl (o_as ev_const) (fun an53 n53 => ?_)
    refine wpList_nil ?_
    refine th_n (hK52 _ _ ?_)
    refine wp_block ?_
    have e55 := n53.ne rfl (n51.ne rfl (n50.ne rfl (n49.ne rfl (n48.ne rfl (n46.ne rfl (n41.ne rfl s1I33))))))
    have e56 := n53.ne rfl (n51.ne rfl (n50.ne rfl (n49.ne rfl (n48.ne rfl (n46.ne rfl (n41.ne rfl s2I33))))))
    have e57 := n53.ne rfl (n51.ne rfl (n50.ne rfl (n49.ne rfl (n48.ne rfl (n46.ne rfl (n41.ne rfl s3I33))))))
    have e58 := n53.ne rfl (n51.ne rfl (n50.ne rfl (n49.ne rfl (n48.ne rfl (n46.ne rfl (n41.ne rfl s10I33))))))
    have e59 := n53.ne rfl (n51.ne rfl (n50.ne rfl (n49.ne rfl (n48.ne rfl (n46.ne rfl (n41.ne rfl s11I33))))))
    have e60 := n53.ne rfl (n51.ne rfl (n50.ne rfl (n49.ne rfl (n48.ne rfl (n46.ne rfl (n41.ne rfl s12I33))))))
    refine lp (fun (nL : Nat) (aL : Act) (wL : World) => ∃ c : Nat, ∃ X : Nat → Nat, nL = xh47 + 1 - c ∧ Ok 47 aL ∧ Gr w wL ∧ (aL.eval (.tmp 1) = .pointer (some ⟨b3, 0, none⟩)) ∧ (aL.eval (.tmp 2) = .pointer (some ⟨b9, 0, none⟩)) ∧ (aL.eval (.tmp 3) = .pointer (some ⟨b18, 0, none⟩)) ∧ (aL.eval (.tmp 4) = .int .i64 (i : Int)) ∧ (aL.eval (.tmp 5) = .int .i64 (xh47 : Int)) ∧ (aL.eval (.tmp 6) = .int .i64 (c : Int)) ∧ (aL.eval (.tmp 10) = .slice va v.length vc) ∧ (aL.eval (.tmp 11) = .int .i64 ((v.length : Nat) : Int)) ∧ (aL.eval (.tmp 12) = .int .i64 (i : Int)) ∧ (Bk wL b3 #[.slice va v.length vc, .slice ma m.length mc] 35) ∧ (Bk wL b9 (wArr (fun _ => 0)) 86) ∧ (Bk wL b18 (wArr X) 86) ∧ (1 ≤ c ∧ c ≤ xh47 + 1) ∧ (OkX X) ∧ (∀ s q, s < 5 → q < 1024 → dsX X s q = decide (s < i ∧ 1 ≤ q ∧ q ≤ cv v s ∨ s = i ∧ 1 ≤ q ∧ q < c))) _ ⟨1, X, rfl, n53.ok, GI33, e55, e56, e57, (n53.ne rfl (n51.ne rfl n50.at_)), (n53.ne rfl n51.at_), n53.at_, e58, e59, e60, kb3I33, kb9I33, kb18I33, by omega, hXI33, fun s q h1 h2 => by rw [hDI33 s q h1 h2, Bool.eq_iff_iff]; simp only [decide_eq_true_eq]; omega⟩ ?_
    rintro m61 aI54 w63 ⟨c, X, hmI54, okI54, GI54, s1I54, s2I54, s3I54, s4I54, s5I54, s6I54, s10I54, s11I54, s12I54, kb3I54, kb9I54, kb18I54, hcI54, hXI54, hDI54⟩ KI54 hKI54
    refine wp_seq_k (fun K64 hK64 => ?_)
    refine wp_seq_k (fun K65 hK65 => ?_)
    refine wp_region_lit ?_
    refine sv okI54 rfl (wn _ rfl) rfl (o_mv s6I54) (fun an66 n66 => ?_)
    refine sv n66.ok rfl (wn _ rfl) rfl (o_mv (n66.ne rfl s5I54)) (fun an67 n67 => ?_)
    refine sv n67.ok rfl (wn _ rfl) rfl (o_leI (n67.ne rfl n66.at_) n67.at_) (fun an68 n68 => ?_)
    refine wpList_nil ?_
    refine th_n (hK65 _ _ ?_)
    by_cases c69 : (c : Int) ≤ (xh47 : Int)
    · refine wp_cond_true ((n68.at_).trans (congrArg Value.bool (decide_eq_true c69))) ?_
      refine wp_skip ?_
      refine th_n (hK64 _ _ ?_)
      refine wp_seq_k (fun K70 hK70 => ?_)
      refine wp_block ?_
      refine reg_start (N := 47) (m := 12) (by kernel_rfl) (fun R710 => ?_)
      have e72 := n68.ne rfl (n67.ne rfl (n66.ne rfl s4I54))
      have R711 := R710.snoc (n' := 1) rfl (fun vJ _ => vJ = .int .i64 (i : Int)) rfl (fun _ _ _ _ h => h) (fun aS wS pS => by
          exact Does.val (wn _ rfl) (o_mv ((pS.old 4 rfl).trans e72)) (Gr.refl _) rfl rfl)
      have e73 := n68.ne rfl (n67.ne rfl (n66.ne rfl s6I54))
      have R712 := R711.snoc (n' := 2) rfl (fun vJ _ => vJ = .int .i64 (c : Int)) rfl (fun _ _ _ _ h => h) (fun aS wS pS => by
          exact Does.val (wn _ rfl) (o_mv ((pS.old 6 rfl).trans e73)) (Gr.refl _) rfl rfl)
      have R713 := R712.snoc (n' := 3) rfl (fun vJ _ => vJ = .int .i64 (((c) / 64 : Nat) : Int)) rfl (fun _ _ _ _ h => h) (fun aS wS pS => by
          have eR71_1 : aS.eval (.tmp 23) = .int .i64 (c : Int) := pS.pre 1 rfl
          exact Does.val (wn _ rfl) (o_quo (i := c) (j := 64) (eR71_1) ev_const (by omega) (by omega) rfl) (Gr.refl _) rfl rfl)
      have e74 := n68.ne rfl (n67.ne rfl (n66.ne rfl s3I54))
      have R714 := R713.snoc (n' := 4) rfl (fun vJ _ => vJ = .pointer (some ⟨b18, 0 + i * 16, none⟩)) rfl (fun _ _ _ _ h => h) (fun aS wS pS => by
          have eR71_0 : aS.eval (.tmp 22) = .int .i64 (i : Int) := pS.pre 0 rfl
          exact Does.val (wn _ rfl) (o_iaA (i := i) (s := 16) ((pS.old 3 rfl).trans e74) (eR71_0) Try.underlying86 (by kernel_rfl) (by omega)) (Gr.refl _) rfl rfl)
      have R715 := R714.snoc (n' := 5) rfl (fun vJ _ => vJ = .pointer (some ⟨b18, 0 + i * 16 + ((c) / 64) * 1, none⟩)) rfl (fun _ _ _ _ h => h) (fun aS wS pS => by
          have eR71_2 : aS.eval (.tmp 24) = .int .i64 (((c) / 64 : Nat) : Int) := pS.pre 2 rfl
          have eR71_3 : aS.eval (.tmp 25) = .pointer (some ⟨b18, 0 + i * 16, none⟩) := pS.pre 3 rfl
          exact Does.val (wn _ rfl) (o_iaA (i := (c) / 64) (s := 1) (eR71_3) (eR71_2) Try.underlying84 (by kernel_rfl) (by omega)) (Gr.refl _) rfl rfl)
      have R716 := R715.snoc (n' := 6) rfl (fun vJ _ => vJ = .int .u64 ((X (0 + i * 16 + ((c) / 64) * 1) : Nat) : Int)) rfl (fun _ _ _ _ h => h) (fun aS wS pS => by
          have eR71_4 : aS.eval (.tmp 26) = .pointer (some ⟨b18, 0 + i * 16 + ((c) / 64) * 1, none⟩) := pS.pre 4 rfl
          exact Does.val (wn _ rfl) (o_ld (eR71_4) (Try.isAgg83 _) ((Bk.gr kb18I54 (gr_drew pS.gr)).cell _ (wArr_at X (0 + i * 16 + ((c) / 64) * 1) (by omega)))) (Gr.refl _) rfl rfl)
      have R717 := R716.snoc (n' := 7) rfl (fun vJ _ => vJ = .int .i64 (c : Int)) rfl (fun _ _ _ _ h => h) (fun aS wS pS => by
          exact Does.val (wn _ rfl) (o_mv ((pS.old 6 rfl).trans e73)) (Gr.refl _) rfl rfl)
      have R718 := R717.snoc (n' := 8) rfl (fun vJ _ => vJ = .int .i64 (((c) % 64 : Nat) : Int)) rfl (fun _ _ _ _ h => h) (fun aS wS pS => by
          have eR71_6 : aS.eval (.tmp 28) = .int .i64 (c : Int) := pS.pre 6 rfl
          exact Does.val (wn _ rfl) (o_rem (i := c) (j := 64) (eR71_6) ev_const (by omega) rfl) (Gr.refl _) rfl rfl)
      have R719 := R718.snoc (n' := 9) rfl (fun vJ _ => vJ = .int .u64 ((2 ^ ((c) % 64) : Nat) : Int)) rfl (fun _ _ _ _ h => h) (fun aS wS pS => by
          have eR71_7 : aS.eval (.tmp 29) = .int .i64 (((c) % 64 : Nat) : Int) := pS.pre 7 rfl
          exact Does.val (wn _ rfl) (o_shlU (j := (c) % 64) ev_const (eR71_7) (by omega)) (Gr.refl _) rfl rfl)
      have R7110 := R719.snoc (n' := 10) rfl (fun vJ _ => vJ = .int .u64 ((X (0 + i * 16 + ((c) / 64) * 1) ||| 2 ^ ((c) % 64) : Nat) : Int)) rfl (fun _ _ _ _ h => h) (fun aS wS pS => by
          have eR71_5 : aS.eval (.tmp 27) = .int .u64 ((X (0 + i * 16 + ((c) / 64) * 1) : Nat) : Int) := pS.pre 5 rfl
          have eR71_8 : aS.eval (.tmp 30) = .int .u64 ((2 ^ ((c) % 64) : Nat) : Int) := pS.pre 8 rfl
          exact Does.val (wn _ rfl) (o_orU (eR71_5) (eR71_8) (hXI54 _) (pow_lt64 _ (by omega))) (Gr.refl _) rfl rfl)
      have R7111 := R7110.snoc (n' := 11) rfl (fun vJ _ => vJ = .pointer (some ⟨b18, 0 + i * 16, none⟩)) rfl (fun _ _ _ _ h => h) (fun aS wS pS => by
          have eR71_0 : aS.eval (.tmp 22) = .int .i64 (i : Int) := pS.pre 0 rfl
          exact Does.val (wn _ rfl) (o_iaA (i := i) (s := 16) ((pS.old 3 rfl).trans e74) (eR71_0) Try.underlying86 (by kernel_rfl) (by omega)) (Gr.refl _) rfl rfl)
      have R7112 := R7111.snoc (n' := 12) rfl (fun vJ _ => vJ = .pointer (some ⟨b18, 0 + i * 16 + ((c) / 64) * 1, none⟩)) rfl (fun _ _ _ _ h => h) (fun aS wS pS => by
          have eR71_2 : aS.eval (.tmp 24) = .int .i64 (((c) / 64 : Nat) : Int) := pS.pre 2 rfl
          have eR71_10 : aS.eval (.tmp 32) = .pointer (some ⟨b18, 0 + i * 16, none⟩) := pS.pre 10 rfl
          exact Does.val (wn _ rfl) (o_iaA (i := (c) / 64) (s := 1) (eR71_10) (eR71_2) Try.underlying84 (by kernel_rfl) (by omega)) (Gr.refl _) rfl rfl)
      refine R7112.run (k := 1) (L := #[true, true, true, true, true, true, true, true, true, true, true, true, false]) (by kernel_rfl) (by kernel_rfl) (by kernel_rfl) n68.ok (by kernel_rfl) (by kernel_rfl) (fun ap76 w77 p76 => ?_)
      have g78 := gr_drew p76.gr
      have G79 := GI54.trans g78
      have B80 := kb3I54.gr g78
      have B81 := kb9I54.gr g78
      have B82 := kb18I54.gr g78
      have ep76_11 : ap76.eval (.tmp 33) = .pointer (some ⟨b18, 0 + i * 16 + ((c) / 64) * 1, none⟩) := p76.js 11 rfl
      have ep76_9 : ap76.eval (.tmp 31) = .int .u64 ((X (0 + i * 16 + ((c) / 64) * 1) ||| 2 ^ ((c) % 64) : Nat) : Int) := p76.js 9 rfl
      refine t_stC (i := 12) (by kernel_rfl) rfl rfl (wn _ rfl) (o_st ep76_11 ep76_9 B82 (wArr_at X (0 + i * 16 + ((c) / 64) * 1) (by omega)) (by kernel_rfl) rfl) B82 (fun w83 u84 u84b => ?_)
      have G85 : Gr w w83 := Below.upd G79 l23 u84
      have B86 := B80.upd u84 (Nat.ne_of_lt l21)
      have B87 := B81.upd u84 (Nat.ne_of_lt l22)
      have B88 : Bk w83 b18 (wArr (fun q => if q = 0 + i * 16 + ((c) / 64) * 1 then X (0 + i * 16 + ((c) / 64) * 1) ||| 2 ^ ((c) % 64) else X q)) 86 := (by rw [← wArr_set]; exact u84b)
      refine wpAny_done (by kernel_rfl) ?_ _
      refine ib_n ?_
      refine th_n (hK70 _ _ ?_)
      refine wp_region_lit ?_
      refine sv p76.ok rfl (wn _ rfl) rfl (o_mv ((p76.old 6 rfl).trans e73)) (fun an89 n89 => ?_)
      refine sv n89.ok rfl (wn _ rfl) rfl (o_add (r := ((c + 1 : Nat) : Int)) n89.at_ ev_const (by omega) (by omega)) (fun an90 n90 => ?_)
      refine sv n90.ok rfl (wn _ rfl) rfl (o_as n90.at_) (fun an91 n91 => ?_)
      refine wpList_nil ?_
      have e92 := n91.ne rfl (n90.ne rfl (n89.ne rfl ((p76.old 1 rfl).trans (n68.ne rfl (n67.ne rfl (n66.ne rfl s1I54))))))
      have e93 := n91.ne rfl (n90.ne rfl (n89.ne rfl ((p76.old 2 rfl).trans (n68.ne rfl (n67.ne rfl (n66.ne rfl s2I54))))))
      have e94 := n91.ne rfl (n90.ne rfl (n89.ne rfl ((p76.old 3 rfl).trans e74)))
      have e95 := n91.ne rfl (n90.ne rfl (n89.ne rfl ((p76.old 4 rfl).trans e72)))
      have e96 := n91.ne rfl (n90.ne rfl (n89.ne rfl ((p76.old 5 rfl).trans (n68.ne rfl (n67.ne rfl (n66.ne rfl s5I54))))))
      have e97 := n91.ne rfl (n90.ne rfl (n89.ne rfl ((p76.old 10 rfl).trans (n68.ne rfl (n67.ne rfl (n66.ne rfl s10I54))))))
      have e98 := n91.ne rfl (n90.ne rfl (n89.ne rfl ((p76.old 11 rfl).trans (n68.ne rfl (n67.ne rfl (n66.ne rfl s11I54))))))
      have e99 := n91.ne rfl (n90.ne rfl (n89.ne rfl ((p76.old 12 rfl).trans (n68.ne rfl (n67.ne rfl (n66.ne rfl s12I54))))))
      exact th_n (hKI54 _ _ _ (by omega) ⟨c + 1, withX X i c, rfl, n91.ok, G85, e92, e93, e94, e95, e96, n91.at_, e97, e98, e99, B86, B87, (by rw [← withX_off X i c]; exact B88), by omega, hXI54.with i c, all_step (by omega) (by omega) hDI54⟩)
    · refine wp_cond_false ((n68.at_).trans (congrArg Value.bool (decide_eq_false c69))) ?_
      refine wp_exit ?_
      refine th_x ?_
      refine th_x ?_
      refine ib_x ?_
      refine ib_n ?_
      refine th_n (hK44 _ _ ?_)
      refine wp_region_lit ?_
      have e100 := n68.ne rfl (n67.ne rfl (n66.ne rfl s12I54))
      refine sv n68.ok rfl (wn _ rfl) rfl (o_add (r := ((i + 1 : Nat) : Int)) e100 ev_const (by omega) (by omega)) (fun an101 n101 => ?_)
      refine sv n101.ok rfl (wn _ rfl) rfl (o_mv n101.at_) (fun an102 n102 => ?_)
      refine wpList_nil ?_
      have e103 := n102.ne rfl (n101.ne rfl (n68.ne rfl (n67.ne rfl (n66.ne rfl s1I54))))
      have e104 := n102.ne rfl (n101.ne rfl (n68.ne rfl (n67.ne rfl (n66.ne rfl s2I54))))
      have e105 := n102.ne rfl (n101.ne rfl (n68.ne rfl (n67.ne rfl (n66.ne rfl s3I54))))
      have e106 := n102.ne rfl (n101.ne rfl (n68.ne rfl (n67.ne rfl (n66.ne rfl s10I54))))
      have e107 := n102.ne rfl (n101.ne rfl (n68.ne rfl (n67.ne rfl (n66.ne rfl s11I54))))
      exact th_n (hKI33 _ _ _ (by omega) ⟨i + 1, X, rfl, n102.ok, GI54, e103, e104, e105, e106, e107, n102.at_, kb3I54, kb9I54, kb18I54, by omega, hXI54, all_next hcv (by omega) hDI54⟩)
  · refine wp_cond_false ((n41.at_).trans (congrArg Value.bool (decide_eq_false c43))) ?_
    refine wp_exit ?_
    refine th_x ?_
    refine th_x ?_
    refine ib_x ?_
    refine th_n (hK27 _ _ ?_)
    refine wp_seq_k (fun K108 hK108 => ?_)
    refine wp_seq_k (fun K109 hK109 => ?_)
    refine wp_region_lit ?_
    refine sv n41.ok rfl (wn _ rfl) rfl (o_fa (z := 1) (n41.ne rfl s1I33) Try.underlying35 rfl (by kernel_rfl) rfl rfl) (fun an110 n110 => ?_)
    refine sv n110.ok rfl (wn _ rfl) rfl (o_ld n110.at_ (Try.isAgg33 _) (kb3I33.cell _ rfl)) (fun an111 n111 => ?_)
    refine sv n111.ok rfl (wn _ rfl) rfl (o_len n111.at_ Try.underlying33) (fun an112 n112 => ?_)
    refine sv n112.ok rfl (wn _ rfl) rfl (o_mv ev_const) (fun an113 n113 => ?_)
    refine wpList_nil ?_
    refine th_n (hK109 _ _ ?_)
    refine wp_block ?_
    have e115 := n113.ne rfl (n112.ne rfl (n111.ne rfl (n110.ne rfl (n41.ne rfl s2I33))))
    have e116 := n113.ne rfl (n112.ne rfl (n111.ne rfl (n110.ne rfl (n41.ne rfl s3I33))))
    refine lp (fun (nL : Nat) (aL : Act) (wL : World) => ∃ k : Nat, ∃ X : Nat → Nat, nL = m.length - k ∧ Ok 47 aL ∧ Gr w wL ∧ (aL.eval (.tmp 2) = .pointer (some ⟨b9, 0, none⟩)) ∧ (aL.eval (.tmp 3) = .pointer (some ⟨b18, 0, none⟩)) ∧ (aL.eval (.tmp 36) = .slice ma m.length mc) ∧ (aL.eval (.tmp 37) = .int .i64 ((m.length : Nat) : Int)) ∧ (aL.eval (.tmp 38) = .int .i64 (k : Int)) ∧ (Bk wL b9 (wArr (fun _ => 0)) 86) ∧ (Bk wL b18 (wArr X) 86) ∧ (k ≤ m.length) ∧ (OkX X) ∧ (∀ s q, s < 5 → q < 1024 → dsX X s q = memB v (m.take k) s q)) _ ⟨0, X, rfl, n113.ok, GI33, e115, e116, (n113.ne rfl (n112.ne rfl n111.at_)), (n113.ne rfl n112.at_), n113.at_, kb9I33, kb18I33, by omega, hXI33, all_mid (by omega) hDI33 m⟩ ?_
    rintro m117 aI114 w119 ⟨k, X, hmI114, okI114, GI114, s2I114, s3I114, s36I114, s37I114, s38I114, kb9I114, kb18I114, hkI114, hXI114, hDI114⟩ KI114 hKI114
    refine wp_seq_k (fun K120 hK120 => ?_)
    refine wp_region_lit ?_
    refine sv okI114 rfl (wn _ rfl) rfl (o_ltI s38I114 s37I114) (fun an121 n121 => ?_)
    refine wpList_nil ?_
    refine th_n (hK120 _ _ ?_)
    refine wp_seq_k (fun K122 hK122 => ?_)
    by_cases c123 : (k : Int) < ((m.length : Nat) : Int)
    · refine wp_cond_true ((n121.at_).trans (congrArg Value.bool (decide_eq_true c123))) ?_
      refine wp_skip ?_
      refine th_n (hK122 _ _ ?_)
      refine wp_seq_k (fun K124 hK124 => ?_)
      refine wp_block ?_
      refine wp_seq_k (fun K125 hK125 => ?_)
      refine wp_region_lit ?_
      have h126l : k < List.length m := by omega
      obtain ⟨bh126, fh126, h126a, h126b, h126c⟩ := hm (ne_nil_of_lt h126l)
      obtain ⟨⟨xh126, yh126⟩, h126x⟩ : ∃ x, m[k]? = some x := ⟨_, List.getElem?_eq_getElem h126l⟩
      have hdh126 := ok.dots _ (List.mem_of_getElem? h126x)
      simp only at hdh126
      refine sv n121.ok rfl (wn _ rfl) rfl (o_iaV (i := k) (s := 2) h126a (n121.ne rfl s36I114) (n121.ne rfl s38I114) Try.underlying33 (by kernel_rfl) h126l) (fun an127 n127 => ?_)
      refine sv n127.ok rfl (wn _ rfl) rfl (o_ldA (k := fh126 + k * 2) n127.at_ (cells_to (fun j => Below.cell GI114 h126b) (two_cells (h126c _ _ h126x).1 (h126c _ _ h126x).2)) Try.underlying26 rfl (by kernel_rfl)) (fun an128 n128 => ?_)
      refine sal (cs := #[.int .i64 0, .int .i64 0]) n128.ok rfl (wn _ rfl) rfl (o_al (z := .agg #[.int .i64 0, .int .i64 0]) (by kernel_rfl)) (fun an129 w131 b130 W132 n129 => ?_)
      have l133 : b9 < b130 := by rw [W132.eq]; exact kb9I114.lt
      have l134 : b18 < b130 := by rw [W132.eq]; exact kb18I114.lt
      have l135 : w.heap.size ≤ b130 := by rw [W132.eq]; exact GI114.size
      have G136 := GI114.trans W132.gr
      have B137 := kb9I114.gr W132.gr
      have B138 := kb18I114.gr W132.gr
      refine ssR rfl (wn _ rfl) (o_stR n129.at_ (n129.ne rfl n128.at_) W132.bk (by kernel_rfl) rfl (by simp [Value.oneCell'])) W132.bk (fun w139 u140 u140b => ?_)
      have G141 : Gr w w139 := Below.upd G136 l135 u140
      have B142 := B137.upd u140 (Nat.ne_of_lt l133)
      have B143 := B138.upd u140 (Nat.ne_of_lt l134)
      refine wpList_nil ?_
      refine th_n (hK125 _ _ ?_)
      refine wp_region_lit ?_
      have e144 := n129.ne rfl (n128.ne rfl (n127.ne rfl (n121.ne rfl s3I114)))
      refine sv n129.ok rfl (wn _ rfl) rfl (o_ldR e144 B143 Try.underlying86 rfl (dots_sz X)) (fun an145 n145 => ?_)
      refine sv n145.ok rfl (wn _ rfl) rfl (o_ldR (n145.ne rfl n129.at_) u140b Try.underlying26 rfl (by kernel_rfl)) (fun an146 n146 => ?_)
      refine sc n146.ok rfl (wn _ rfl) rfl (o_f2 Try.func82 rfl rfl rfl (n146.ne rfl n145.at_) n146.at_) (rwith_any X xh126 yh126 w139 hXI114 (by omega) (by omega)) ?_
      rintro _ w148 ⟨rfl, g149⟩
      refine ⟨_, rfl, fun an147 n147 => ?_⟩
      have G150 := G141.trans g149
      have B151 := B142.gr g149
      have B152 := B143.gr g149
      have B153 := u140b.gr g149
      have e154 := n147.ne rfl (n146.ne rfl (n145.ne rfl e144))
      refine ssR rfl (wn _ rfl) (o_stR e154 n147.at_ B152 (dots_sz (withX X xh126 yh126)) (by rw [wArr_size, wArr_size]) (wArr_one (withX X xh126 yh126))) B152 (fun w155 u156 u156b => ?_)
      have G157 : Gr w w155 := Below.upd G150 l23 u156
      have B158 := B151.upd u156 (Nat.ne_of_lt l22)
      have B159 := B153.upd u156 (Nat.ne_of_gt l134)
      refine wpList_nil ?_
      refine ib_n ?_
      refine th_n (hK124 _ _ ?_)
      refine wp_region_lit ?_
      have e160 := n147.ne rfl (n146.ne rfl (n145.ne rfl (n129.ne rfl (n128.ne rfl (n127.ne rfl (n121.ne rfl s38I114))))))
      refine sv n147.ok rfl (wn _ rfl) rfl (o_add (r := ((k + 1 : Nat) : Int)) e160 ev_const (by omega) (by omega)) (fun an161 n161 => ?_)
      refine sv n161.ok rfl (wn _ rfl) rfl (o_mv n161.at_) (fun an162 n162 => ?_)
      refine wpList_nil ?_
      have e163 := n162.ne rfl (n161.ne rfl (n147.ne rfl (n146.ne rfl (n145.ne rfl (n129.ne rfl (n128.ne rfl (n127.ne rfl (n121.ne rfl s2I114))))))))
      have e164 := n162.ne rfl (n161.ne rfl (n147.ne rfl (n146.ne rfl (n145.ne rfl (n129.ne rfl (n128.ne rfl (n127.ne rfl (n121.ne rfl s36I114))))))))
      have e165 := n162.ne rfl (n161.ne rfl (n147.ne rfl (n146.ne rfl (n145.ne rfl (n129.ne rfl (n128.ne rfl (n127.ne rfl (n121.ne rfl s37I114))))))))
      exact th_n (hKI114 _ _ _ (by omega) ⟨k + 1, withX X xh126 yh126, rfl, n162.ok, G157, e163, (n162.ne rfl (n161.ne rfl e154)), e164, e165, n162.at_, B158, u156b, by omega, hXI114.with _ _, all_more h126x (by omega) hDI114⟩)
    · refine wp_cond_false ((n121.at_).trans (congrArg Value.bool (decide_eq_false c123))) ?_
      refine wp_exit ?_
      refine th_x ?_
      refine th_x ?_
      refine ib_x ?_
      refine th_n (hK108 _ _ ?_)
      refine wp_seq_k (fun K166 hK166 => ?_)
      refine wp_region_lit ?_
      refine sv n121.ok rfl (wn _ rfl) rfl (o_ldR (n121.ne rfl s3I114) kb18I114 Try.underlying86 rfl (dots_sz X)) (fun an167 n167 => ?_)
      refine ssR rfl (wn _ rfl) (o_stR (n167.ne rfl (n121.ne rfl s2I114)) n167.at_ kb9I114 (dots_sz X) (by rw [wArr_size, wArr_size]) (wArr_one X)) kb9I114 (fun w168 u169 u169b => ?_)
      have G170 : Gr w w168 := Below.upd GI114 l13 u169
      have B171 := kb18I114.upd u169 (Nat.ne_of_gt l22)
      refine wpList_nil ?_
      refine th_n (hK166 _ _ ?_)
      refine wp_ret ?_
      exact ret1 n167.ok rfl (⟨_, _, (n167.ne rfl (n121.ne rfl s2I114)), ld_row u169b Try.underlying86 rfl (dots_sz X)⟩) ⟨X, rfl, hXI114, fun s q h1 h2 => by rw [hDI114 s q h1 h2, List.take_of_length_le (by omega)], G170⟩
theorem rall_any (k : Value) (v : List Nat) (m : List (Nat × Nat)) (w : World) (hk : KnR w k (ints v) (pairs m)) (ok : OkV v m) (hl : m.length ≤ 60) :
    Calls Try.prog 48 #[k] w fun e w' => ∃ X, e = .returned (.agg (wArr X)) ∧ OkX X ∧ (∀ s q, s < 5 → q < 1024 → dsX X s q = memB v m s q) ∧ Gr w w' := by
  obtain ⟨va, vc, ma, mc, rfl, hv, hm⟩ := knr_form hk
  rw [ints_len, pairs_len]
  exact rall_k va ma vc mc v m ok hl w hv.nat hm.nat
end Go.Proofs.Ytghjfakellaecaa
