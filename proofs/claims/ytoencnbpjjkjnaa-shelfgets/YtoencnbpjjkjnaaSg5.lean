/- Joined: ShM, ShN, ShO, ShP, ShSort, ShComp, ShQ, ShR, ShS, ShT, ShU. -/
import Derived.Test.YtoencnbpjjkjnaaSg4
import Derived.Lib.AppendZerosOnto
import Derived.Lib.AppendZeros
import Derived.Laws.AppendOwnNone
import Derived.SizedLaws
/- reedkeep.told. -/
set_option linter.unusedVariables false
set_option linter.unusedSimpArgs false
namespace Gx
open Go Go.RowKit Rm
section
variable {P : Program} {ev : Operand → Value} {d : Option Tmp} {ty : TypeId} {p : String} {af : Array Edge} {g : Option (Nat × Bool)} {w : World}
theorem o_shrI {t t' : TypeId} {x y : Operand} {i : Int} {n : Nat} (hx : ev x = .int .i64 i) (hy : ev y = .int .i64 (n : Int)) : ∃ r, (execOp ev (Oper.mk d (.binOp .shr t x y t') ty p af g)).run P w = .ok (.value (.int .i64 r)) w := by
  have h0 : ¬ ((n : Int) < 0) := by omega
  unfold execOp
  simp only [hx, hy, eqGuard, Sem.run_bind, Sem.run_pure, Result.andThen_ok]
  simp [binOp, Op.shift, go_sem, h0]
theorem o_andI {t t' : TypeId} {x y : Operand} {i j : Int} (hx : ev x = .int .i64 i) (hy : ev y = .int .i64 j) : ∃ r, (execOp ev (Oper.mk d (.binOp .and t x y t') ty p af g)).run P w = .ok (.value (.int .i64 r)) w := by
  unfold execOp
  simp only [hx, hy, eqGuard, Sem.run_bind, Sem.run_pure, Result.andThen_ok]
  simp [binOp, Op.intBits, go_sem]
end
end Gx
namespace Rm
open Go Go.RowKit Gx
theorem id_at (b j : Nat) (w : World) (t : TypeId) (hb : Bk w b #[.string (bs [97]), .string (bs [98])] t) (hj : j < 2) : w.cell? ⟨b, 0 + j * 1, none⟩ = some (.string (bs (idOf j))) := by
  have : j = 0 ∨ j = 1 := by omega
  rcases this with rfl | rfl
  · exact hb.cell 0 rfl
  · exact hb.cell 1 rfl
theorem idOf_or (j : Nat) : idOf j = [97] ∨ idOf j = [98] := by
  unfold idOf
  split
  · exact .inl rfl
  · exact .inr rfl
theorem ToldV.dot {v : List Nat} {T : List VerD} (hT : ToldV v T) (hv : ∀ s, s < 5 → cv v s ≤ 20) {x : VerD} (hx : x ∈ T) : 0 ≤ x.s ∧ x.s < 5 ∧ 0 ≤ x.c ∧ x.c < 1024 := by
  obtain ⟨s, c, h1, h2, h3, h4, h5⟩ := hT.cnt x hx
  have := hv s h3
  omega
theorem sum_set {v : List Nat} {s i : Nat} (hs : s < 5) (h : cv v 0 + cv v 1 + cv v 2 + cv v 3 + cv v 4 ≤ i) : cv (setC v s (cv v s + 1)) 0 + cv (setC v s (cv v s + 1)) 1 + cv (setC v s (cv v s + 1)) 2 + cv (setC v s (cv v s + 1)) 3 + cv (setC v s (cv v s + 1)) 4 ≤ i + 1 := by
  have h0 := cv_setC v s (cv v s + 1) 0 hs (by omega)
  have h1 := cv_setC v s (cv v s + 1) 1 hs (by omega)
  have h2 := cv_setC v s (cv v s + 1) 2 hs (by omega)
  have h3 := cv_setC v s (cv v s + 1) 3 hs (by omega)
  have h4 := cv_setC v s (cv v s + 1) 4 hs (by omega)
  have : s = 0 ∨ s = 1 ∨ s = 2 ∨ s = 3 ∨ s = 4 := by omega
  rcases this with rfl | rfl | rfl | rfl | rfl <;> simp_all <;> omega
theorem cv_sum {v : List Nat} {i : Nat} (h : cv v 0 + cv v 1 + cv v 2 + cv v 3 + cv v 4 ≤ i) : ∀ s, s < 5 → cv v s ≤ i := fun s hs => by
  have : s = 0 ∨ s = 1 ∨ s = 2 ∨ s = 3 ∨ s = 4 := by omega
  rcases this with rfl | rfl | rfl | rfl | rfl <;> omega
end Rm
namespace Go.Proofs.Ytoencnbpjjkjnaa
open Go.RowKit Rm Gx
theorem bk_grownT {w w' : World} {b base s n : Nat} {cs : Array Value} {t t' : TypeId} {v : Value} {xs : List Value} (h : Bk w b cs t) (ho : w.ownsRow base t' s v n xs) (g : w.grownBy w' v.ownBlock) (ht : Nat.beq t' t = false) : Bk w' b cs t := (g.block b h.lt (fun e => by
  obtain ⟨-, ⟨rfl, -⟩ | ⟨k, cap, cur, rfl, -, hg, -⟩⟩ := ho
  · cases e
  · obtain rfl : b = k := by simpa [Value.ownBlock] using e
    unfold Bk at h
    rw [hg] at h
    injection h with h
    injection h with _ h2
    exact Nat.ne_of_beq_eq_false ht h2)).trans h
/-- the document's All, where the set may be -/
theorem rallC (k : Value) (V : List Int) (M : List (Int × Int)) (w : World) (hk : KnR w k V M) (hc : chkK V M = 0) :
    Calls Try.prog 56 #[k] w fun e w' => e = .returned (.agg (wArr (xOf (memB (V.map Int.toNat) (M.map fun d => (d.1.toNat, d.2.toNat)))))) ∧ Gr w w' := by
  obtain ⟨v, m, rfl, rfl, ok, hl⟩ := chkK_zero hc
  rw [ints_nat, pairs_nat]
  refine (rall_any k v m w hk ok hl).mono ?_
  rintro e w' ⟨X, rfl, hX, hD, g⟩
  exact ⟨by rw [xOf_eq hX hD], g⟩
theorem rwithI (X : Nat → Nat) (s c : Int) (w : World) (hX : OkX X) (h1 : 0 ≤ s) (h2 : s < 5) (h3 : 0 ≤ c) (h4 : c < 1024) :
    Calls Try.prog 63 #[.agg (wArr X), .agg #[.int .i64 s, .int .i64 c]] w fun e w' => e = .returned (.agg (wArr (withX X s.toNat c.toNat))) ∧ Gr w w' := by
  obtain ⟨a, rfl⟩ : ∃ n : Nat, s = n := ⟨s.toNat, by omega⟩
  obtain ⟨b, rfl⟩ : ∃ n : Nat, c = n := ⟨c.toNat, by omega⟩
  have h := rwith_any X a b w hX (by omega) (by omega)
  rw [Int.toNat_natCast, Int.toNat_natCast]
  exact h
set_option maxHeartbeats 8000000 in
set_option maxRecDepth 100000 in
theorem told_k (va : Option Addr) (vc : Nat) (L : List (List Int)) (hvc : L.length ≤ vc) (w : World) (hL : L ≠ [] → ∃ b off, va = some ⟨b, off, none⟩ ∧ b < w.heap.size ∧ ∀ i x, L[i]? = some x → ∃ ua uc, w.cell? ⟨b, off + i * 1, none⟩ = some (.slice ua x.length uc) ∧ RdI1 w ua x) :
    Calls Try.prog 23 #[.slice va L.length vc] w fun e w' => ∃ (R : List VerI) (a : Option Addr) (c : Nat) (v : List Nat), e = .returned (.slice a R.length c) ∧ ToldV v (R.map VerI.d) ∧ (∀ s, s < 5 → cv v s ≤ 20) ∧ R.length ≤ 20 ∧ RdA encVr 8 w' a R ∧ MeansV w' R ∧ (R.length ≤ c ∧ (a = none → c = 0)) ∧ cv v 0 + cv v 1 + cv v 2 + cv v 3 + cv v 4 ≤ 20 ∧ (∀ x ∈ R, x.d.id = [97] ∨ x.d.id = [98]) ∧ Gr w w' := by
  refine enter (N := 103) Try.func23 rfl rfl rfl (fun a0 ok0 h0 => ?_)
  have e0_0 : a0.eval (.tmp 0) = .slice va L.length vc := h0 0 _ rfl
  clear h0
  have G0 := Gr.refl w
  refine wp_seq_k (fun K1 hK1 => ?_)
  refine wp_region_lit ?_
  refine sv ok0 rfl (wn _ rfl) rfl (o_as ev_const) (fun an2 n2 => ?_)
  refine wpList_nil ?_
  refine th_n (hK1 _ _ ?_)
  refine wp_seq_k (fun K3 hK3 => ?_)
  refine wp_region_lit ?_
  refine sv n2.ok rfl (wn _ rfl) rfl (o_as ev_const) (fun an4 n4 => ?_)
  refine wpList_nil ?_
  refine th_n (hK3 _ _ ?_)
  refine wp_seq_k (fun K5 hK5 => ?_)
  refine wp_region_lit ?_
  refine sal (cs := cArr []) n4.ok rfl (wn _ rfl) rfl (o_al (z := .agg (cArr [])) five_zero) (fun an6 w8 b7 W9 n6 => ?_)
  have l10 : w.heap.size ≤ b7 := by rw [W9.eq]; exact G0.size
  have G11 := G0.trans W9.gr
  refine wpList_nil ?_
  refine th_n (hK5 _ _ ?_)
  refine wp_seq_k (fun K12 hK12 => ?_)
  refine wp_seq_k (fun K13 hK13 => ?_)
  refine wp_region_lit ?_
  have e14 := n6.ne rfl (n4.ne rfl (n2.ne rfl e0_0))
  refine sv n6.ok rfl (wn _ rfl) rfl (o_mv e14) (fun an15 n15 => ?_)
  refine sv n15.ok rfl (wn _ rfl) rfl (o_mv (n15.ne rfl e14)) (fun an16 n16 => ?_)
  refine sv n16.ok rfl (wn _ rfl) rfl (o_len n16.at_ Try.underlying45) (fun an17 n17 => ?_)
  refine sv n17.ok rfl (wn _ rfl) rfl (o_min n17.at_ ev_const (nmin_int _ _)) (fun an18 n18 => ?_)
  have e19 := n18.ne rfl (n17.ne rfl (n16.ne rfl n15.at_))
  refine sv n18.ok rfl (wn _ rfl) rfl (o_cut (k := min (L.length) (20)) (s := 1) e19 n18.at_ Try.underlying45 (by kernel_rfl) (by omega)) (fun an20 n20 => ?_)
  refine sv n20.ok rfl (wn _ rfl) rfl (o_len n20.at_ Try.underlying45) (fun an21 n21 => ?_)
  refine sv n21.ok rfl (wn _ rfl) rfl (o_mv ev_const) (fun an22 n22 => ?_)
  refine wpList_nil ?_
  refine th_n (hK13 _ _ ?_)
  refine wp_block ?_
  obtain ⟨base, z23⟩ : ∃ n, n = w8.heap.size := ⟨_, rfl⟩
  have l24 : b7 < base := by rw [z23]; exact W9.bk.lt
  have l25 : w.heap.size ≤ base := by rw [z23]; exact G11.size
  have z26 : base ≤ w8.heap.size := Nat.le_of_eq z23
  have O27 := World.ownsRow_nil w8 base 32 8
  have hps : OwnsVr base w8 ([] : List VerI) := fun x hx => by cases hx
  have e29 := n22.ne rfl (n21.ne rfl (n20.ne rfl (n18.ne rfl (n17.ne rfl (n16.ne rfl (n15.ne rfl (n6.ne rfl (n4.ne rfl n2.at_))))))))
  have e30 := n22.ne rfl (n21.ne rfl (n20.ne rfl (n18.ne rfl (n17.ne rfl (n16.ne rfl (n15.ne rfl (n6.ne rfl n4.at_)))))))
  have e31 := n22.ne rfl (n21.ne rfl (n20.ne rfl (n18.ne rfl (n17.ne rfl (n16.ne rfl (n15.ne rfl n6.at_))))))
  refine lp (fun (nL : Nat) (aL : Act) (wL : World) => ∃ i : Nat, ∃ R : List VerI, ∃ v : List Nat, ∃ ra : Option Addr, ∃ rc : Nat, nL = min L.length 20 - i ∧ Ok 103 aL ∧ Gr w wL ∧ (aL.eval (.tmp 2) = .slice none 0 0) ∧ (aL.eval (.tmp 3) = .slice ra (R.length) rc) ∧ (aL.eval (.tmp 4) = .pointer (some ⟨b7, 0, none⟩)) ∧ (aL.eval (.tmp 16) = .slice va (min (L.length) (20)) vc) ∧ (aL.eval (.tmp 17) = .int .i64 ((min (L.length) (20) : Nat) : Int)) ∧ (aL.eval (.tmp 18) = .int .i64 (i : Int)) ∧ (Bk wL b7 (cArr v) 97) ∧ (OwnsVr base wL R) ∧ (World.ownsRow wL base 32 8 (.slice ra (R.length) rc) (R.length) ((flatE encVr R))) ∧ (base ≤ wL.heap.size) ∧ (i ≤ min L.length 20) ∧ (ToldV v (R.map VerI.d)) ∧ (cv v 0 + cv v 1 + cv v 2 + cv v 3 + cv v 4 ≤ i) ∧ (R.length ≤ i) ∧ (∀ x ∈ R, x.d.id = [97] ∨ x.d.id = [98])) _ ⟨0, [], [], none, 0, rfl, n22.ok, G11, e29, e30, e31, (n22.ne rfl (n21.ne rfl n20.at_)), (n22.ne rfl n21.at_), n22.at_, W9.bk, hps, O27, z26, by omega, ToldV.nil, by simp [cv], by simp, (fun x hx => by cases hx)⟩ ?_
  rintro m32 aI28 w34 ⟨i, R, v, ra, rc, hmI28, okI28, GI28, s2I28, s3I28, s4I28, s16I28, s17I28, s18I28, kb7I28, fpsI28, orI28, zbaseI28, hiI28, hTI28, hsI28, hrI28, hidI28⟩ KI28 hKI28
  have hvI28 : ∀ s, s < 5 → cv v s ≤ 20 := fun s hs => Nat.le_trans (cv_sum hsI28 s hs) (by omega)
  refine wp_seq_k (fun K35 hK35 => ?_)
  refine wp_region_lit ?_
  refine sv okI28 rfl (wn _ rfl) rfl (o_ltI s18I28 s17I28) (fun an36 n36 => ?_)
  refine wpList_nil ?_
  refine th_n (hK35 _ _ ?_)
  refine wp_seq_k (fun K37 hK37 => ?_)
  by_cases c38 : (i : Int) < ((min (L.length) (20) : Nat) : Int)
  · refine wp_cond_true ((n36.at_).trans (congrArg Value.bool (decide_eq_true c38))) ?_
    refine wp_skip ?_
    refine th_n (hK37 _ _ ?_)
    refine wp_seq_k (fun K39 hK39 => ?_)
    refine wp_block ?_
    refine wp_seq_k (fun K40 hK40 => ?_)
    refine wp_region_lit ?_
    have h41l : i < List.length L := by omega
    obtain ⟨bh41, fh41, h41a, h41b, h41c⟩ := hL (ne_nil_of_lt h41l)
    obtain ⟨xh41, h41x⟩ : ∃ x, L[i]? = some x := ⟨_, List.getElem?_eq_getElem h41l⟩
    obtain ⟨uh41, vh41, h41d, h41e⟩ := h41c _ _ h41x
    refine sv n36.ok rfl (wn _ rfl) rfl (o_iaV (i := i) (s := 1) h41a (n36.ne rfl s16I28) (n36.ne rfl s18I28) Try.underlying45 (by kernel_rfl) (by omega)) (fun an42 n42 => ?_)
    refine sv n42.ok rfl (wn _ rfl) rfl (o_ld n42.at_ (Try.isAgg27 _) ((Below.cell GI28 h41b).trans h41d)) (fun an43 n43 => ?_)
    refine sv n43.ok rfl (wn _ rfl) rfl (o_as n43.at_) (fun an44 n44 => ?_)
    refine wpList_nil ?_
    refine th_n (hK40 _ _ ?_)
    refine wp_seq_k (fun K45 hK45 => ?_)
    refine wp_seq_k (fun K46 hK46 => ?_)
    refine wp_region_lit ?_
    refine sv n44.ok rfl (wn _ rfl) rfl (o_mv n44.at_) (fun an47 n47 => ?_)
    refine sv n47.ok rfl (wn _ rfl) rfl (o_len n47.at_ Try.underlying27) (fun an48 n48 => ?_)
    refine sv n48.ok rfl (wn _ rfl) rfl (o_ltI n48.at_ ev_const) (fun an49 n49 => ?_)
    refine wpList_nil ?_
    refine th_n (hK46 _ _ ?_)
    by_cases c50 : ((xh41.length : Nat) : Int) < 3
    · refine wp_cond_true ((n49.at_).trans (congrArg Value.bool (decide_eq_true c50))) ?_
      refine wp_exit ?_
      refine th_x ?_
      refine ib_x ?_
      refine th_n (hK39 _ _ ?_)
      refine wp_region_lit ?_
      have e51 := n49.ne rfl (n48.ne rfl (n47.ne rfl (n44.ne rfl (n43.ne rfl (n42.ne rfl (n36.ne rfl s18I28))))))
      refine sv n49.ok rfl (wn _ rfl) rfl (o_add (r := ((i + 1 : Nat) : Int)) e51 ev_const (by omega) (by omega)) (fun an52 n52 => ?_)
      refine sv n52.ok rfl (wn _ rfl) rfl (o_mv n52.at_) (fun an53 n53 => ?_)
      refine wpList_nil ?_
      have e54 := n53.ne rfl (n52.ne rfl (n49.ne rfl (n48.ne rfl (n47.ne rfl (n44.ne rfl (n43.ne rfl (n42.ne rfl (n36.ne rfl s2I28))))))))
      have e55 := n53.ne rfl (n52.ne rfl (n49.ne rfl (n48.ne rfl (n47.ne rfl (n44.ne rfl (n43.ne rfl (n42.ne rfl (n36.ne rfl s3I28))))))))
      have e56 := n53.ne rfl (n52.ne rfl (n49.ne rfl (n48.ne rfl (n47.ne rfl (n44.ne rfl (n43.ne rfl (n42.ne rfl (n36.ne rfl s4I28))))))))
      have e57 := n53.ne rfl (n52.ne rfl (n49.ne rfl (n48.ne rfl (n47.ne rfl (n44.ne rfl (n43.ne rfl (n42.ne rfl (n36.ne rfl s16I28))))))))
      have e58 := n53.ne rfl (n52.ne rfl (n49.ne rfl (n48.ne rfl (n47.ne rfl (n44.ne rfl (n43.ne rfl (n42.ne rfl (n36.ne rfl s17I28))))))))
      exact th_n (hKI28 _ _ _ (by omega) ⟨i + 1, R, v, ra, rc, rfl, n53.ok, GI28, e54, e55, e56, e57, e58, n53.at_, kb7I28, fpsI28, orI28, zbaseI28, by omega, by omega, by omega, by omega, by omega⟩)
    · refine wp_cond_false ((n49.at_).trans (congrArg Value.bool (decide_eq_false c50))) ?_
      refine wp_skip ?_
      refine th_n (hK45 _ _ ?_)
      refine wp_seq_k (fun K59 hK59 => ?_)
      refine wp_region_lit ?_
      have e60 := n49.ne rfl (n48.ne rfl (n47.ne rfl n44.at_))
      refine sv n49.ok rfl (wn _ rfl) rfl (o_mv e60) (fun an61 n61 => ?_)
      have h62l : 0 < List.length xh41 := by omega
      obtain ⟨bh62, fh62, h62a, h62b, h62c⟩ := h41e (ne_nil_of_lt h62l)
      obtain ⟨xh62, h62x⟩ : ∃ x, xh41[0]? = some x := ⟨_, List.getElem?_eq_getElem h62l⟩
      refine sv n61.ok rfl (wn _ rfl) rfl (o_iaV (i := 0) (s := 1) h62a n61.at_ ev_const Try.underlying27 (by kernel_rfl) h62l) (fun an63 n63 => ?_)
      refine sv n63.ok rfl (wn _ rfl) rfl (o_ld n63.at_ (Try.isAgg3 _) ((Below.cell GI28 h62b).trans (h62c _ _ h62x))) (fun an64 n64 => ?_)
      have hw65 := wi_lt xh62 5 (by omega)
      have hvb := hvI28 _ hw65
      refine sc n64.ok rfl (wn _ rfl) rfl (o_f2 Try.func24 rfl rfl rfl n64.at_ ev_const) (kwithin_any xh62 5 (by omega) (by omega) w34) ?_
      rintro _ w67 ⟨rfl, g68⟩
      refine ⟨_, rfl, fun an66 n66 => ?_⟩
      have G69 := GI28.trans g68
      have B70 := kb7I28.gr g68
      have z71 := Nat.le_trans zbaseI28 g68.size
      have O72 := ow_gr orI28 g68
      have F73 := fpsI28.tk (tks_gr g68)
      refine sv n66.ok rfl (wn _ rfl) rfl (o_as n66.at_) (fun an74 n74 => ?_)
      refine wpList_nil ?_
      refine th_n (hK59 _ _ ?_)
      refine wp_seq_k (fun K75 hK75 => ?_)
      refine wp_region_lit ?_
      refine sv n74.ok rfl (wn _ rfl) rfl (o_mv n74.at_) (fun an76 n76 => ?_)
      have e77 := n76.ne rfl (n74.ne rfl (n66.ne rfl (n64.ne rfl (n63.ne rfl (n61.ne rfl (n49.ne rfl (n48.ne rfl (n47.ne rfl (n44.ne rfl (n43.ne rfl (n42.ne rfl (n36.ne rfl s4I28))))))))))))
      refine sv n76.ok rfl (wn _ rfl) rfl (o_iaA (i := wi xh62 5) (s := 1) e77 n76.at_ Try.underlying97 (by kernel_rfl) (by omega)) (fun an78 n78 => ?_)
      refine sv n78.ok rfl (wn _ rfl) rfl (o_ld n78.at_ (Try.isAgg3 _) (B70.cell _ (five_get (by omega)))) (fun an79 n79 => ?_)
      refine sv n79.ok rfl (wn _ rfl) rfl (o_add (r := ((((cv v (wi xh62 5))) + 1 : Nat) : Int)) n79.at_ ev_const (by omega) (by omega)) (fun an80 n80 => ?_)
      have e81 := n80.ne rfl (n79.ne rfl (n78.ne rfl e77))
      have e82 := n80.ne rfl (n79.ne rfl (n78.ne rfl n76.at_))
      refine sv n80.ok rfl (wn _ rfl) rfl (o_iaA (i := wi xh62 5) (s := 1) e81 e82 Try.underlying97 (by kernel_rfl) (by omega)) (fun an83 n83 => ?_)
      refine ssC rfl (wn _ rfl) (o_st n83.at_ (n83.ne rfl n80.at_) B70 (five_get (by omega)) (by kernel_rfl) rfl) B70 (fun w84 u85 u85b => ?_)
      have G86 : Gr w w84 := Below.upd G69 l10 u85
      have z87 : base ≤ w84.heap.size := by rw [u85.size]; exact z71
      have O88 := ow_upd O72 u85 l24
      have F89 := F73.tk (tks_upd u85 B70 (by decide))
      have B90 : Bk w84 b7 (cArr (setC v (wi xh62 5) (((cv v (wi xh62 5))) + 1))) 97 := (by have h := u85b; rw [show 0 + (wi xh62 5) * 1 = (wi xh62 5) by omega, cArr_setC _ _ _ (by omega)] at h; exact h)
      refine wpList_nil ?_
      refine th_n (hK75 _ _ ?_)
      refine wp_seq_k (fun K91 hK91 => ?_)
      refine reg_start (N := 103) (m := 27) (by kernel_rfl) (fun R920 => ?_)
      have R921 := R920.snoc (n' := 1) rfl (fun vJ wJ => ∃ b94 : Nat, vJ = .slice (some ⟨b94, 0, none⟩) 2 2 ∧ w84.heap.size ≤ b94 ∧ Bk wJ b94 #[.string (bs [97]), .string (bs [98])] 9) rfl (fun _ _ _ g ⟨b, h1, h2, h3⟩ => ⟨b, h1, h2, h3.gr g⟩) (fun aS wS pS => by
          obtain ⟨i93, i93a, i93b, i93c⟩ := info3_of (show (Try.prog.info? 9).map (fun i => (i.zero, i.size)) = some (some (.string (bs [])), 1) by kernel_rfl)
          exact Does.val (wn _ rfl) (o_bs (vs := [(0, .string (bs [97])), (1, .string (bs [98]))]) (by simp [ev_const, bs]) Try.underlying58 i93a i93b (by rw [i93c]; rfl) (by rw [i93c]; rfl) (by rw [i93c]; kernel_rfl)) ((Gr.refl _).alloc _) ⟨_, rfl, pS.gr.size, (New.mk' _ _ _).bk⟩ rfl)
      have e95 := n83.ne rfl (n80.ne rfl (n79.ne rfl (n78.ne rfl (n76.ne rfl (n74.ne rfl (n66.ne rfl (n64.ne rfl (n63.ne rfl (n61.ne rfl e60)))))))))
      have R922 := R921.snoc (n' := 2) rfl (fun vJ _ => vJ = .slice uh41 xh41.length vh41) rfl (fun _ _ _ _ h => h) (fun aS wS pS => by
          exact Does.val (wn _ rfl) (o_mv ((pS.old 6 rfl).trans e95)) (Gr.refl _) rfl rfl)
      have h96l : 1 < List.length xh41 := by omega
      obtain ⟨bh96, fh96, h96a, h96b, h96c⟩ := h41e (ne_nil_of_lt h96l)
      obtain ⟨xh96, h96x⟩ : ∃ x, xh41[1]? = some x := ⟨_, List.getElem?_eq_getElem h96l⟩
      have R923 := R922.snoc (n' := 3) rfl (fun vJ _ => vJ = .pointer (some ⟨bh96, fh96 + 1 * 1, none⟩)) rfl (fun _ _ _ _ h => h) (fun aS wS pS => by
          have eR92_1 : aS.eval (.tmp 35) = .slice uh41 xh41.length vh41 := pS.pre 1 rfl
          exact Does.val (wn _ rfl) (o_iaV (i := 1) (s := 1) h96a (eR92_1) ev_const Try.underlying27 (by kernel_rfl) h96l) (Gr.refl _) rfl rfl)
      have R924 := R923.snoc (n' := 4) rfl (fun vJ _ => vJ = .int .i64 (xh96)) rfl (fun _ _ _ _ h => h) (fun aS wS pS => by
          have eR92_2 : aS.eval (.tmp 36) = .pointer (some ⟨bh96, fh96 + 1 * 1, none⟩) := pS.pre 2 rfl
          exact Does.val (wn _ rfl) (o_ld (eR92_2) (Try.isAgg3 _) ((Below.cell (G86.trans (gr_drew pS.gr)) h96b).trans (h96c _ _ h96x))) (Gr.refl _) rfl rfl)
      have hw97 := wi_lt xh96 2 (by omega)
      have R925 := R924.snoc (n' := 5) rfl (fun vJ _ => vJ = .int .i64 ((wi xh96 2 : Nat) : Int)) rfl (fun _ _ _ _ h => h) (fun aS wS pS => by
          have eR92_3 : aS.eval (.tmp 37) = .int .i64 (xh96) := pS.pre 3 rfl
          exact Does.call (wn _ rfl) (o_f2 Try.func24 rfl rfl rfl (eR92_3) ev_const) (kwithin_any xh96 2 (by omega) (by omega) wS) (by rintro _ w2 ⟨rfl, g⟩; exact ⟨_, rfl, g, rfl⟩) rfl)
      have R926 := R925.snoc (n' := 6) rfl (fun vJ wJ => ∃ (b94 : Nat), vJ = .pointer (some ⟨b94, 0 + (wi xh96 2) * 1, none⟩) ∧ (w84.heap.size ≤ b94) ∧ (Bk wJ b94 #[.string (bs [97]), .string (bs [98])] 9)) rfl (fun _ _ _ g ⟨b94, h, q0, q1⟩ => ⟨b94, h, q0, q1.gr g⟩) (fun aS wS pS => by
          obtain ⟨b94, eR92_0, geb94, bkb94⟩ := pS.pre 0 rfl
          have eR92_0 : aS.eval (.tmp 34) = .slice (some ⟨b94, 0, none⟩) 2 2 := eR92_0
          have eR92_4 : aS.eval (.tmp 38) = .int .i64 ((wi xh96 2 : Nat) : Int) := pS.pre 4 rfl
          exact Does.val (wn _ rfl) (o_ia (i := wi xh96 2) (s := 1) (eR92_0) (eR92_4) Try.underlying58 (by kernel_rfl) (by omega)) (Gr.refl _) ⟨b94, rfl, geb94, bkb94⟩ rfl)
      have R927 := R926.snoc (n' := 7) rfl (fun vJ _ => vJ = .string (bs (idOf (wi xh96 2)))) rfl (fun _ _ _ _ h => h) (fun aS wS pS => by
          obtain ⟨b94, eR92_5, geb94, bkb94⟩ := pS.pre 5 rfl
          have eR92_5 : aS.eval (.tmp 39) = .pointer (some ⟨b94, 0 + (wi xh96 2) * 1, none⟩) := eR92_5
          exact Does.val (wn _ rfl) (o_ld (eR92_5) (Try.isAgg9 _) (id_at _ _ _ _ bkb94 (by omega))) (Gr.refl _) rfl rfl)
      have e98 := n83.ne rfl (n80.ne rfl (n79.ne rfl (n78.ne rfl (n76.ne rfl n74.at_))))
      have R928 := R927.snoc (n' := 8) rfl (fun vJ _ => vJ = .int .i64 ((wi xh62 5 : Nat) : Int)) rfl (fun _ _ _ _ h => h) (fun aS wS pS => by
          exact Does.val (wn _ rfl) (o_mv ((pS.old 7 rfl).trans e98)) (Gr.refl _) rfl rfl)
      have R929 := R928.snoc (n' := 9) rfl (fun vJ _ => vJ = .int .i64 ((wi xh62 5 : Nat) : Int)) rfl (fun _ _ _ _ h => h) (fun aS wS pS => by
          exact Does.val (wn _ rfl) (o_mv ((pS.old 7 rfl).trans e98)) (Gr.refl _) rfl rfl)
      have R9210 := R929.snoc (n' := 10) rfl (fun vJ _ => vJ = .pointer (some ⟨b7, 0 + (wi xh62 5) * 1, none⟩)) rfl (fun _ _ _ _ h => h) (fun aS wS pS => by
          have eR92_8 : aS.eval (.tmp 42) = .int .i64 ((wi xh62 5 : Nat) : Int) := pS.pre 8 rfl
          exact Does.val (wn _ rfl) (o_iaA (i := wi xh62 5) (s := 1) ((pS.old 4 rfl).trans (n83.ne rfl e81)) (eR92_8) Try.underlying97 (by kernel_rfl) (by omega)) (Gr.refl _) rfl rfl)
      have R9211 := R9210.snoc (n' := 11) rfl (fun vJ _ => vJ = .int .i64 (((cv (setC v (wi xh62 5) (((cv v (wi xh62 5))) + 1)) (wi xh62 5)) : Nat) : Int)) rfl (fun _ _ _ _ h => h) (fun aS wS pS => by
          have eR92_9 : aS.eval (.tmp 43) = .pointer (some ⟨b7, 0 + (wi xh62 5) * 1, none⟩) := pS.pre 9 rfl
          exact Does.val (wn _ rfl) (o_ld (eR92_9) (Try.isAgg3 _) ((Bk.gr B90 (gr_drew pS.gr)).cell _ (five_get (by omega)))) (Gr.refl _) rfl rfl)
      have R9212 := R9211.snoc (n' := 12) rfl (fun vJ _ => vJ = .agg #[.int .i64 ((wi xh62 5 : Nat) : Int), .int .i64 (((cv (setC v (wi xh62 5) (((cv v (wi xh62 5))) + 1)) (wi xh62 5)) : Nat) : Int)]) rfl (fun _ _ _ _ h => h) (fun aS wS pS => by
          have eR92_7 : aS.eval (.tmp 41) = .int .i64 ((wi xh62 5 : Nat) : Int) := pS.pre 7 rfl
          have eR92_10 : aS.eval (.tmp 44) = .int .i64 (((cv (setC v (wi xh62 5) (((cv v (wi xh62 5))) + 1)) (wi xh62 5)) : Nat) : Int) := pS.pre 10 rfl
          exact Does.val (wn _ rfl) (o_bd (cells := #[.int .i64 ((wi xh62 5 : Nat) : Int), .int .i64 (((cv (setC v (wi xh62 5) (((cv v (wi xh62 5))) + 1)) (wi xh62 5)) : Nat) : Int)]) (vs := [(0, .int .i64 ((wi xh62 5 : Nat) : Int)), (1, .int .i64 (((cv (setC v (wi xh62 5) (((cv v (wi xh62 5))) + 1)) (wi xh62 5)) : Nat) : Int))]) (by simp [(eR92_7), (eR92_10), ev_const]) (by kernel_rfl)) (Gr.refl _) rfl rfl)
      have R9213 := R9212.snoc (n' := 13) rfl (fun vJ _ => vJ = .slice uh41 xh41.length vh41) rfl (fun _ _ _ _ h => h) (fun aS wS pS => by
          exact Does.val (wn _ rfl) (o_mv ((pS.old 6 rfl).trans e95)) (Gr.refl _) rfl rfl)
      have h99l : 2 < List.length xh41 := by omega
      obtain ⟨bh99, fh99, h99a, h99b, h99c⟩ := h41e (ne_nil_of_lt h99l)
      obtain ⟨xh99, h99x⟩ : ∃ x, xh41[2]? = some x := ⟨_, List.getElem?_eq_getElem h99l⟩
      have R9214 := R9213.snoc (n' := 14) rfl (fun vJ _ => vJ = .pointer (some ⟨bh99, fh99 + 2 * 1, none⟩)) rfl (fun _ _ _ _ h => h) (fun aS wS pS => by
          have eR92_12 : aS.eval (.tmp 46) = .slice uh41 xh41.length vh41 := pS.pre 12 rfl
          exact Does.val (wn _ rfl) (o_iaV (i := 2) (s := 1) h99a (eR92_12) ev_const Try.underlying27 (by kernel_rfl) h99l) (Gr.refl _) rfl rfl)
      have R9215 := R9214.snoc (n' := 15) rfl (fun vJ _ => vJ = .int .i64 (xh99)) rfl (fun _ _ _ _ h => h) (fun aS wS pS => by
          have eR92_13 : aS.eval (.tmp 47) = .pointer (some ⟨bh99, fh99 + 2 * 1, none⟩) := pS.pre 13 rfl
          exact Does.val (wn _ rfl) (o_ld (eR92_13) (Try.isAgg3 _) ((Below.cell (G86.trans (gr_drew pS.gr)) h99b).trans (h99c _ _ h99x))) (Gr.refl _) rfl rfl)
      have hw100 := wi_lt xh99 16 (by omega)
      have R9216 := R9215.snoc (n' := 16) rfl (fun vJ _ => vJ = .int .i64 ((wi xh99 16 : Nat) : Int)) rfl (fun _ _ _ _ h => h) (fun aS wS pS => by
          have eR92_14 : aS.eval (.tmp 48) = .int .i64 (xh99) := pS.pre 14 rfl
          exact Does.call (wn _ rfl) (o_f2 Try.func24 rfl rfl rfl (eR92_14) ev_const) (kwithin_any xh99 16 (by omega) (by omega) wS) (by rintro _ w2 ⟨rfl, g⟩; exact ⟨_, rfl, g, rfl⟩) rfl)
      have R9217 := R9216.snoc (n' := 17) rfl (fun vJ _ => vJ = .slice uh41 xh41.length vh41) rfl (fun _ _ _ _ h => h) (fun aS wS pS => by
          exact Does.val (wn _ rfl) (o_mv ((pS.old 6 rfl).trans e95)) (Gr.refl _) rfl rfl)
      have h101l : 1 < List.length xh41 := by omega
      obtain ⟨bh101, fh101, h101a, h101b, h101c⟩ := h41e (ne_nil_of_lt h101l)
      obtain ⟨xh101, h101x⟩ : ∃ x, xh41[1]? = some x := ⟨_, List.getElem?_eq_getElem h101l⟩
      have R9218 := R9217.snoc (n' := 18) rfl (fun vJ _ => vJ = .pointer (some ⟨bh101, fh101 + 1 * 1, none⟩)) rfl (fun _ _ _ _ h => h) (fun aS wS pS => by
          have eR92_16 : aS.eval (.tmp 50) = .slice uh41 xh41.length vh41 := pS.pre 16 rfl
          exact Does.val (wn _ rfl) (o_iaV (i := 1) (s := 1) h101a (eR92_16) ev_const Try.underlying27 (by kernel_rfl) h101l) (Gr.refl _) rfl rfl)
      have R9219 := R9218.snoc (n' := 19) rfl (fun vJ _ => vJ = .int .i64 (xh101)) rfl (fun _ _ _ _ h => h) (fun aS wS pS => by
          have eR92_17 : aS.eval (.tmp 51) = .pointer (some ⟨bh101, fh101 + 1 * 1, none⟩) := pS.pre 17 rfl
          exact Does.val (wn _ rfl) (o_ld (eR92_17) (Try.isAgg3 _) ((Below.cell (G86.trans (gr_drew pS.gr)) h101b).trans (h101c _ _ h101x))) (Gr.refl _) rfl rfl)
      have hw102 := wi_lt xh101 32 (by omega)
      have R9220 := R9219.snoc (n' := 20) rfl (fun vJ _ => vJ = .int .i64 ((wi xh101 32 : Nat) : Int)) rfl (fun _ _ _ _ h => h) (fun aS wS pS => by
          have eR92_18 : aS.eval (.tmp 52) = .int .i64 (xh101) := pS.pre 18 rfl
          exact Does.call (wn _ rfl) (o_f2 Try.func24 rfl rfl rfl (eR92_18) ev_const) (kwithin_any xh101 32 (by omega) (by omega) wS) (by rintro _ w2 ⟨rfl, g⟩; exact ⟨_, rfl, g, rfl⟩) rfl)
      have R9221 := R9220.snoc (n' := 21) rfl (fun vJ _ => vJ = .agg #[.int .i64 ((wi xh99 16 : Nat) : Int), .int .i64 ((wi xh101 32 : Nat) : Int)]) rfl (fun _ _ _ _ h => h) (fun aS wS pS => by
          have eR92_15 : aS.eval (.tmp 49) = .int .i64 ((wi xh99 16 : Nat) : Int) := pS.pre 15 rfl
          have eR92_19 : aS.eval (.tmp 53) = .int .i64 ((wi xh101 32 : Nat) : Int) := pS.pre 19 rfl
          exact Does.val (wn _ rfl) (o_bd (cells := #[.int .i64 ((wi xh99 16 : Nat) : Int), .int .i64 ((wi xh101 32 : Nat) : Int)]) (vs := [(0, .int .i64 ((wi xh99 16 : Nat) : Int)), (1, .int .i64 ((wi xh101 32 : Nat) : Int))]) (by simp [(eR92_15), (eR92_19), ev_const]) (by kernel_rfl)) (Gr.refl _) rfl rfl)
      have R9222 := R9221.snoc (n' := 22) rfl (fun vJ _ => vJ = .slice uh41 xh41.length vh41) rfl (fun _ _ _ _ h => h) (fun aS wS pS => by
          exact Does.val (wn _ rfl) (o_mv ((pS.old 6 rfl).trans e95)) (Gr.refl _) rfl rfl)
      have h103l : 2 < List.length xh41 := by omega
      obtain ⟨bh103, fh103, h103a, h103b, h103c⟩ := h41e (ne_nil_of_lt h103l)
      obtain ⟨xh103, h103x⟩ : ∃ x, xh41[2]? = some x := ⟨_, List.getElem?_eq_getElem h103l⟩
      have R9223 := R9222.snoc (n' := 23) rfl (fun vJ _ => vJ = .pointer (some ⟨bh103, fh103 + 2 * 1, none⟩)) rfl (fun _ _ _ _ h => h) (fun aS wS pS => by
          have eR92_21 : aS.eval (.tmp 55) = .slice uh41 xh41.length vh41 := pS.pre 21 rfl
          exact Does.val (wn _ rfl) (o_iaV (i := 2) (s := 1) h103a (eR92_21) ev_const Try.underlying27 (by kernel_rfl) h103l) (Gr.refl _) rfl rfl)
      have R9224 := R9223.snoc (n' := 24) rfl (fun vJ _ => vJ = .int .i64 (xh103)) rfl (fun _ _ _ _ h => h) (fun aS wS pS => by
          have eR92_22 : aS.eval (.tmp 56) = .pointer (some ⟨bh103, fh103 + 2 * 1, none⟩) := pS.pre 22 rfl
          exact Does.val (wn _ rfl) (o_ld (eR92_22) (Try.isAgg3 _) ((Below.cell (G86.trans (gr_drew pS.gr)) h103b).trans (h103c _ _ h103x))) (Gr.refl _) rfl rfl)
      have hw104 := wi_lt xh103 1000 (by omega)
      have R9225 := R9224.snoc (n' := 25) rfl (fun vJ _ => vJ = .int .i64 ((wi xh103 1000 : Nat) : Int)) rfl (fun _ _ _ _ h => h) (fun aS wS pS => by
          have eR92_23 : aS.eval (.tmp 57) = .int .i64 (xh103) := pS.pre 23 rfl
          exact Does.call (wn _ rfl) (o_f2 Try.func24 rfl rfl rfl (eR92_23) ev_const) (kwithin_any xh103 1000 (by omega) (by omega) wS) (by rintro _ w2 ⟨rfl, g⟩; exact ⟨_, rfl, g, rfl⟩) rfl)
      have R9226 := R9225.snoc (n' := 26) rfl (fun vJ _ => vJ = .agg #[.string (bs (idOf (wi xh96 2))), .int .i64 ((wi xh62 5 : Nat) : Int), .int .i64 (((cv (setC v (wi xh62 5) (((cv v (wi xh62 5))) + 1)) (wi xh62 5)) : Nat) : Int), .int .i64 ((wi xh99 16 : Nat) : Int), .int .i64 ((wi xh101 32 : Nat) : Int), .int .i64 ((wi xh103 1000 : Nat) : Int), .slice none 0 0, .slice none 0 0]) rfl (fun _ _ _ _ h => h) (fun aS wS pS => by
          have eR92_6 : aS.eval (.tmp 40) = .string (bs (idOf (wi xh96 2))) := pS.pre 6 rfl
          have eR92_11 : aS.eval (.tmp 45) = .agg #[.int .i64 ((wi xh62 5 : Nat) : Int), .int .i64 (((cv (setC v (wi xh62 5) (((cv v (wi xh62 5))) + 1)) (wi xh62 5)) : Nat) : Int)] := pS.pre 11 rfl
          have eR92_20 : aS.eval (.tmp 54) = .agg #[.int .i64 ((wi xh99 16 : Nat) : Int), .int .i64 ((wi xh101 32 : Nat) : Int)] := pS.pre 20 rfl
          have eR92_24 : aS.eval (.tmp 58) = .int .i64 ((wi xh103 1000 : Nat) : Int) := pS.pre 24 rfl
          exact Does.val (wn _ rfl) (o_bd (cells := #[.string (bs (idOf (wi xh96 2))), .int .i64 ((wi xh62 5 : Nat) : Int), .int .i64 (((cv (setC v (wi xh62 5) (((cv v (wi xh62 5))) + 1)) (wi xh62 5)) : Nat) : Int), .int .i64 ((wi xh99 16 : Nat) : Int), .int .i64 ((wi xh101 32 : Nat) : Int), .int .i64 ((wi xh103 1000 : Nat) : Int), .slice none 0 0, .slice none 0 0]) (vs := [(0, .string (bs (idOf (wi xh96 2)))), (1, .agg #[.int .i64 ((wi xh62 5 : Nat) : Int), .int .i64 (((cv (setC v (wi xh62 5) (((cv v (wi xh62 5))) + 1)) (wi xh62 5)) : Nat) : Int)]), (2, .agg #[.int .i64 ((wi xh99 16 : Nat) : Int), .int .i64 ((wi xh101 32 : Nat) : Int)]), (3, .int .i64 ((wi xh103 1000 : Nat) : Int))]) (by simp [(eR92_6), (eR92_11), (eR92_20), (eR92_24), ev_const]) (by kernel_rfl)) (Gr.refl _) rfl rfl)
      have R9227 := R9226.snoc (n' := 27) rfl (fun vJ wJ => ∃ b : Nat, vJ = .pointer (some ⟨b, 0, none⟩) ∧ w84.heap.size ≤ b ∧ Bk wJ b #[.string (bs []), .int .i64 0, .int .i64 0, .int .i64 0, .int .i64 0, .int .i64 0, .slice none 0 0, .slice none 0 0] 32) rfl (fun _ _ _ g ⟨b, h1, h2, h3⟩ => ⟨b, h1, h2, h3.gr g⟩) (fun aS wS pS => by
          exact Does.alloc (wn _ rfl) (o_al (z := .agg #[.string (bs []), .int .i64 0, .int .i64 0, .int .i64 0, .int .i64 0, .int .i64 0, .slice none 0 0, .slice none 0 0]) (by kernel_rfl)) ⟨_, rfl, pS.gr.size, (New.mk' _ _ _).bk⟩)
      refine R9227.run (k := 1) (L := #[true, true, true, true, true, true, true, true, true, true, true, true, true, true, true, true, true, true, true, true, true, true, true, true, true, true, true, false]) (by kernel_rfl) (by kernel_rfl) (by kernel_rfl) n83.ok (by kernel_rfl) (by kernel_rfl) (fun ap107 w108 p107 => ?_)
      have g109 := gr_drew p107.gr
      have G110 := G86.trans g109
      have B111 := B90.gr g109
      have z112 := Nat.le_trans z87 g109.size
      have O113 := ow_gr O88 g109
      have F114 := F89.tk (tks_gr g109)
      obtain ⟨b94, ep107_0, geb94, bkb94⟩ := p107.js 0 rfl
      have ep107_0 : ap107.eval (.tmp 34) = .slice (some ⟨b94, 0, none⟩) 2 2 := ep107_0
      obtain ⟨b105, ep107_26, geb105, bkb105⟩ := p107.js 26 rfl
      have ep107_26 : ap107.eval (.tmp 8) = .pointer (some ⟨b105, 0, none⟩) := ep107_26
      have l115 : b7 < b105 := Nat.lt_of_lt_of_le B90.lt geb105
      have l116 : w.heap.size ≤ b105 := Nat.le_trans G86.size geb105
      have l117 : ∀ k, Value.ownBlock (.slice ra (R.length) rc) = some k → k < b105 := fun k e => Nat.lt_of_lt_of_le (ow_in O88 k e) geb105
      have ep107_25 : ap107.eval (.tmp 59) = .agg #[.string (bs (idOf (wi xh96 2))), .int .i64 ((wi xh62 5 : Nat) : Int), .int .i64 (((cv (setC v (wi xh62 5) (((cv v (wi xh62 5))) + 1)) (wi xh62 5)) : Nat) : Int), .int .i64 ((wi xh99 16 : Nat) : Int), .int .i64 ((wi xh101 32 : Nat) : Int), .int .i64 ((wi xh103 1000 : Nat) : Int), .slice none 0 0, .slice none 0 0] := p107.js 25 rfl
      refine t_stR (i := 27) (by kernel_rfl) rfl rfl (wn _ rfl) (o_stR ep107_26 ep107_25 bkb105 (by kernel_rfl) rfl (by simp [Value.oneCell'])) bkb105 (fun w118 u119 u119b => ?_)
      have G120 : Gr w w118 := Below.upd G110 l116 u119
      have B121 := B111.upd u119 (Nat.ne_of_lt l115)
      have z122 : base ≤ w118.heap.size := by rw [u119.size]; exact z112
      have O123 := ow_upd_ne O113 u119 l117
      have F124 := F114.tk (tks_upd u119 bkb105 (by decide))
      refine wpAny_done (by kernel_rfl) ?_ _
      refine th_n (hK91 _ _ ?_)
      refine wp_seq_k (fun K125 hK125 => ?_)
      refine wp_region_lit ?_
      refine sal (cs := wArr (fun _ => 0)) p107.ok rfl (wn _ rfl) rfl (o_al (z := .agg (wArr (fun _ => 0))) dots_zero) (fun an126 w128 b127 W129 n126 => ?_)
      have l130 : b7 < b127 := by rw [W129.eq]; exact B121.lt
      have l131 : b105 < b127 := by rw [W129.eq]; exact u119b.lt
      have l132 : w.heap.size ≤ b127 := by rw [W129.eq]; exact G120.size
      have l133 : ∀ k, Value.ownBlock (.slice ra (R.length) rc) = some k → k < b127 := fun k e => by rw [W129.eq]; exact ow_in O123 k e
      have G134 := G120.trans W129.gr
      have B135 := B121.gr W129.gr
      have B136 := u119b.gr W129.gr
      have z137 := Nat.le_trans z122 W129.gr.size
      have O138 := ow_gr O123 W129.gr
      have F139 := F124.tk (tks_gr W129.gr)
      refine wpList_nil ?_
      refine th_n (hK125 _ _ ?_)
      refine wp_seq_k (fun K140 hK140 => ?_)
      refine wp_seq_k (fun K141 hK141 => ?_)
      refine wp_region_lit ?_
      have e142 := n126.ne rfl ((p107.old 3 rfl).trans (n83.ne rfl (n80.ne rfl (n79.ne rfl (n78.ne rfl (n76.ne rfl (n74.ne rfl (n66.ne rfl (n64.ne rfl (n63.ne rfl (n61.ne rfl (n49.ne rfl (n48.ne rfl (n47.ne rfl (n44.ne rfl (n43.ne rfl (n42.ne rfl (n36.ne rfl s3I28))))))))))))))))))
      refine sv n126.ok rfl (wn _ rfl) rfl (o_mv e142) (fun an143 n143 => ?_)
      refine sv n143.ok rfl (wn _ rfl) rfl (o_len n143.at_ Try.underlying22) (fun an144 n144 => ?_)
      refine sv n144.ok rfl (wn _ rfl) rfl (o_mv ev_const) (fun an145 n145 => ?_)
      refine wpList_nil ?_
      refine th_n (hK141 _ _ ?_)
      refine wp_block ?_
      have e147 := n145.ne rfl (n144.ne rfl (n143.ne rfl (n126.ne rfl ((p107.old 2 rfl).trans (n83.ne rfl (n80.ne rfl (n79.ne rfl (n78.ne rfl (n76.ne rfl (n74.ne rfl (n66.ne rfl (n64.ne rfl (n63.ne rfl (n61.ne rfl (n49.ne rfl (n48.ne rfl (n47.ne rfl (n44.ne rfl (n43.ne rfl (n42.ne rfl (n36.ne rfl s2I28)))))))))))))))))))))
      have e148 := n145.ne rfl (n144.ne rfl (n143.ne rfl e142))
      have e149 := n145.ne rfl (n144.ne rfl (n143.ne rfl (n126.ne rfl ((p107.old 4 rfl).trans (n83.ne rfl e81)))))
      have e150 := n145.ne rfl (n144.ne rfl (n143.ne rfl (n126.ne rfl ((p107.old 6 rfl).trans e95))))
      have e151 := n145.ne rfl (n144.ne rfl (n143.ne rfl (n126.ne rfl ep107_26)))
      have e152 := n145.ne rfl (n144.ne rfl (n143.ne rfl n126.at_))
      have e153 := n145.ne rfl (n144.ne rfl (n143.ne rfl (n126.ne rfl ((p107.old 16 rfl).trans (n83.ne rfl (n80.ne rfl (n79.ne rfl (n78.ne rfl (n76.ne rfl (n74.ne rfl (n66.ne rfl (n64.ne rfl (n63.ne rfl (n61.ne rfl (n49.ne rfl (n48.ne rfl (n47.ne rfl (n44.ne rfl (n43.ne rfl (n42.ne rfl (n36.ne rfl s16I28)))))))))))))))))))))
      have e154 := n145.ne rfl (n144.ne rfl (n143.ne rfl (n126.ne rfl ((p107.old 17 rfl).trans (n83.ne rfl (n80.ne rfl (n79.ne rfl (n78.ne rfl (n76.ne rfl (n74.ne rfl (n66.ne rfl (n64.ne rfl (n63.ne rfl (n61.ne rfl (n49.ne rfl (n48.ne rfl (n47.ne rfl (n44.ne rfl (n43.ne rfl (n42.ne rfl (n36.ne rfl s17I28)))))))))))))))))))))
      have e155 := n145.ne rfl (n144.ne rfl (n143.ne rfl (n126.ne rfl ((p107.old 18 rfl).trans (n83.ne rfl (n80.ne rfl (n79.ne rfl (n78.ne rfl (n76.ne rfl (n74.ne rfl (n66.ne rfl (n64.ne rfl (n63.ne rfl (n61.ne rfl (n49.ne rfl (n48.ne rfl (n47.ne rfl (n44.ne rfl (n43.ne rfl (n42.ne rfl (n36.ne rfl s18I28)))))))))))))))))))))
      refine lp (fun (nL : Nat) (aL : Act) (wL : World) => ∃ k : Nat, ∃ X : Nat → Nat, nL = R.length - k ∧ Ok 103 aL ∧ Gr w wL ∧ (aL.eval (.tmp 2) = .slice none 0 0) ∧ (aL.eval (.tmp 3) = .slice ra (R.length) rc) ∧ (aL.eval (.tmp 4) = .pointer (some ⟨b7, 0, none⟩)) ∧ (aL.eval (.tmp 6) = .slice uh41 xh41.length vh41) ∧ (aL.eval (.tmp 8) = .pointer (some ⟨b105, 0, none⟩)) ∧ (aL.eval (.tmp 9) = .pointer (some ⟨b127, 0, none⟩)) ∧ (aL.eval (.tmp 16) = .slice va (min (L.length) (20)) vc) ∧ (aL.eval (.tmp 17) = .int .i64 ((min (L.length) (20) : Nat) : Int)) ∧ (aL.eval (.tmp 18) = .int .i64 (i : Int)) ∧ (aL.eval (.tmp 60) = .slice ra (R.length) rc) ∧ (aL.eval (.tmp 61) = .int .i64 (((R.length) : Nat) : Int)) ∧ (aL.eval (.tmp 62) = .int .i64 (k : Int)) ∧ (Bk wL b7 (cArr (setC v (wi xh62 5) (((cv v (wi xh62 5))) + 1))) 97) ∧ (Bk wL b105 #[.string (bs (idOf (wi xh96 2))), .int .i64 ((wi xh62 5 : Nat) : Int), .int .i64 (((cv (setC v (wi xh62 5) (((cv v (wi xh62 5))) + 1)) (wi xh62 5)) : Nat) : Int), .int .i64 ((wi xh99 16 : Nat) : Int), .int .i64 ((wi xh101 32 : Nat) : Int), .int .i64 ((wi xh103 1000 : Nat) : Int), .slice none 0 0, .slice none 0 0] 32) ∧ (Bk wL b127 (wArr X) 87) ∧ (OwnsVr base wL R) ∧ (World.ownsRow wL base 32 8 (.slice ra (R.length) rc) (R.length) ((flatE encVr R))) ∧ (base ≤ wL.heap.size) ∧ (k ≤ R.length) ∧ (PastOf (R.map VerI.d) (idOf (wi xh96 2)) X)) _ ⟨0, (fun _ => 0), rfl, n145.ok, G134, e147, e148, e149, e150, e151, e152, e153, e154, e155, (n145.ne rfl (n144.ne rfl n143.at_)), (n145.ne rfl n144.at_), n145.at_, B135, B136, W129.bk, F139, O138, z137, by omega, PastOf.zero _ _⟩ ?_
      rintro m156 aI146 w158 ⟨k, X, hmI146, okI146, GI146, s2I146, s3I146, s4I146, s6I146, s8I146, s9I146, s16I146, s17I146, s18I146, s60I146, s61I146, s62I146, kb7I146, kb105I146, kb127I146, fpsI146, orI146, zbaseI146, hkI146, hPI146⟩ KI146 hKI146
      refine wp_seq_k (fun K159 hK159 => ?_)
      refine wp_region_lit ?_
      refine sv okI146 rfl (wn _ rfl) rfl (o_ltI s62I146 s61I146) (fun an160 n160 => ?_)
      refine wpList_nil ?_
      refine th_n (hK159 _ _ ?_)
      refine wp_seq_k (fun K161 hK161 => ?_)
      by_cases c162 : (k : Int) < (((R.length) : Nat) : Int)
      · refine wp_cond_true ((n160.at_).trans (congrArg Value.bool (decide_eq_true c162))) ?_
        refine wp_skip ?_
        refine th_n (hK161 _ _ ?_)
        refine wp_seq_k (fun K163 hK163 => ?_)
        refine wp_block ?_
        refine wp_seq_k (fun K164 hK164 => ?_)
        refine wp_region_lit ?_
        refine sv n160.ok rfl (wn _ rfl) rfl (o_mv (n160.ne rfl s62I146)) (fun an165 n165 => ?_)
        have h166l : k < List.length R := by omega
        obtain ⟨bh166, fh166, h166a, h166b, h166c⟩ := RdA.own encVr_ok orI146 rfl (ne_nil_of_lt h166l)
        obtain ⟨xh166, h166x⟩ : ∃ x, R[k]? = some x := ⟨_, List.getElem?_eq_getElem h166l⟩
        refine sv n165.ok rfl (wn _ rfl) rfl (o_iaV (i := k) (s := 8) h166a (n165.ne rfl (n160.ne rfl s60I146)) (n165.ne rfl (n160.ne rfl s62I146)) Try.underlying22 (by kernel_rfl) h166l) (fun an167 n167 => ?_)
        refine sv n167.ok rfl (wn _ rfl) rfl (o_ldA (k := fh166 + k * 8) n167.at_ (cs := [.string (bs xh166.d.id), .int .i64 (xh166.d.s), .int .i64 (xh166.d.c), .int .i64 (xh166.d.t), .int .i64 (xh166.d.n), .int .i64 (xh166.d.b), .slice xh166.va xh166.d.V.length xh166.vc, .slice xh166.ma xh166.d.M.length xh166.mc]) (fun j v hv => h166c _ _ h166x j v hv) Try.underlying32 rfl (by kernel_rfl)) (fun an168 n168 => ?_)
        refine sal (cs := #[.string (bs []), .int .i64 0, .int .i64 0, .int .i64 0, .int .i64 0, .int .i64 0, .slice none 0 0, .slice none 0 0]) n168.ok rfl (wn _ rfl) rfl (o_al (z := .agg #[.string (bs []), .int .i64 0, .int .i64 0, .int .i64 0, .int .i64 0, .int .i64 0, .slice none 0 0, .slice none 0 0]) (by kernel_rfl)) (fun an169 w171 b170 W172 n169 => ?_)
        have l173 : b7 < b170 := by rw [W172.eq]; exact kb7I146.lt
        have l174 : b105 < b170 := by rw [W172.eq]; exact kb105I146.lt
        have l175 : b127 < b170 := by rw [W172.eq]; exact kb127I146.lt
        have l176 : w.heap.size ≤ b170 := by rw [W172.eq]; exact GI146.size
        have l177 : ∀ k, Value.ownBlock (.slice ra (R.length) rc) = some k → k < b170 := fun k e => by rw [W172.eq]; exact ow_in orI146 k e
        have G178 := GI146.trans W172.gr
        have B179 := kb7I146.gr W172.gr
        have B180 := kb105I146.gr W172.gr
        have B181 := kb127I146.gr W172.gr
        have z182 := Nat.le_trans zbaseI146 W172.gr.size
        have O183 := ow_gr orI146 W172.gr
        have F184 := fpsI146.tk (tks_gr W172.gr)
        have e185 := n169.ne rfl (n168.ne rfl (n167.ne rfl n165.at_))
        refine sv n169.ok rfl (wn _ rfl) rfl (o_as e185) (fun an186 n186 => ?_)
        refine ssR rfl (wn _ rfl) (o_stR (n186.ne rfl n169.at_) (n186.ne rfl (n169.ne rfl n168.at_)) W172.bk (by kernel_rfl) rfl (by simp [Value.oneCell'])) W172.bk (fun w187 u188 u188b => ?_)
        have G189 : Gr w w187 := Below.upd G178 l176 u188
        have B190 := B179.upd u188 (Nat.ne_of_lt l173)
        have B191 := B180.upd u188 (Nat.ne_of_lt l174)
        have B192 := B181.upd u188 (Nat.ne_of_lt l175)
        have z193 : base ≤ w187.heap.size := by rw [u188.size]; exact z182
        have O194 := ow_upd_ne O183 u188 l177
        have F195 := F184.tk (tks_upd u188 W172.bk (by decide))
        refine wpList_nil ?_
        refine th_n (hK164 _ _ ?_)
        refine wp_seq_k (fun K196 hK196 => ?_)
        refine wp_region_lit ?_
        refine sv n186.ok rfl (wn _ rfl) rfl (o_fa (z := 1) (n186.ne rfl n169.at_) Try.underlying32 rfl (by kernel_rfl) rfl rfl) (fun an197 n197 => ?_)
        refine sv n197.ok rfl (wn _ rfl) rfl (o_ld n197.at_ (Try.isAgg9 _) (u188b.cell _ rfl)) (fun an198 n198 => ?_)
        have e199 := n198.ne rfl (n197.ne rfl (n186.ne rfl (n169.ne rfl (n168.ne rfl (n167.ne rfl (n165.ne rfl (n160.ne rfl s8I146)))))))
        refine sv n198.ok rfl (wn _ rfl) rfl (o_fa (z := 1) e199 Try.underlying32 rfl (by kernel_rfl) rfl rfl) (fun an200 n200 => ?_)
        refine sv n200.ok rfl (wn _ rfl) rfl (o_ld n200.at_ (Try.isAgg9 _) (B191.cell _ rfl)) (fun an201 n201 => ?_)
        refine sv n201.ok rfl (wn _ rfl) rfl (o_eqS (n201.ne rfl (n200.ne rfl n198.at_)) n201.at_) (fun an202 n202 => ?_)
        refine sv n202.ok rfl (wn _ rfl) rfl (o_mv n202.at_) (fun an203 n203 => ?_)
        by_cases c204 : xh166.d.id = (idOf (wi xh96 2))
        · have e205 := (n203.at_).trans (congrArg Value.bool (decide_eq_true c204))
          have e206 := ((n203.ne rfl n202.at_)).trans (congrArg Value.bool (decide_eq_true c204))
          have e207 := n203.ne rfl (n202.ne rfl (n201.ne rfl (n200.ne rfl (n198.ne rfl (n197.ne rfl (n186.ne rfl (n169.ne rfl (n168.ne rfl (n167.ne rfl (n165.ne rfl (n160.ne rfl s6I146)))))))))))
          refine sv n203.ok rfl (wgT rfl (yl 5 true rfl e205) rfl) rfl (o_mv e207) (fun an208 n208 => ?_)
          have h209l : 2 < List.length xh41 := by omega
          obtain ⟨bh209, fh209, h209a, h209b, h209c⟩ := h41e (ne_nil_of_lt h209l)
          obtain ⟨xh209, h209x⟩ : ∃ x, xh41[2]? = some x := ⟨_, List.getElem?_eq_getElem h209l⟩
          refine sv n208.ok rfl (wgT rfl (yl 5 true rfl (n208.ne rfl e205)) rfl) rfl (o_iaV (i := 2) (s := 1) h209a n208.at_ ev_const Try.underlying27 (by kernel_rfl) h209l) (fun an210 n210 => ?_)
          refine sv n210.ok rfl (wgT rfl (yl 5 true rfl (n210.ne rfl (n208.ne rfl e205))) rfl) rfl (o_ld n210.at_ (Try.isAgg3 _) ((Below.cell G189 h209b).trans (h209c _ _ h209x))) (fun an211 n211 => ?_)
          have e212 := n211.ne rfl (n210.ne rfl (n208.ne rfl e205))
          have e213 := n211.ne rfl (n210.ne rfl (n208.ne rfl (n203.ne rfl (n202.ne rfl (n201.ne rfl (n200.ne rfl (n198.ne rfl (n197.ne rfl n186.at_))))))))
          refine sv n211.ok rfl (wgT rfl (yl 5 true rfl e212) rfl) rfl (o_mv e213) (fun an214 n214 => ?_)
          refine sv n214.ok rfl (wgT rfl (yl 5 true rfl (n214.ne rfl e212)) rfl) rfl (o_rem (i := k) (j := 30) n214.at_ ev_const (by omega) rfl) (fun an215 n215 => ?_)
          obtain ⟨r216, hr216⟩ := o_shrI (P := Try.prog) (d := some 78) (n := k % 30) (n215.ne rfl (n214.ne rfl n211.at_)) n215.at_
          refine sv n215.ok rfl (wgT rfl (yl 5 true rfl (n215.ne rfl (n214.ne rfl e212))) rfl) rfl (hr216) (fun an217 n217 => ?_)
          have e218 := n217.ne rfl (n215.ne rfl (n214.ne rfl e212))
          obtain ⟨r219, hr219⟩ := o_andI (P := Try.prog) (d := some 79) n217.at_ ev_const
          refine sv n217.ok rfl (wgT rfl (yl 5 true rfl e218) rfl) rfl hr219 (fun an220 n220 => ?_)
          refine sv n220.ok rfl (wgT rfl (yl 5 true rfl (n220.ne rfl e218)) rfl) rfl (o_eqI n220.at_ ev_const) (fun an221 n221 => ?_)
          refine sv n221.ok rfl (wn _ rfl) rfl (o_pkT (n221.ne rfl (n220.ne rfl e218)) n221.at_) (fun an222 n222 => ?_)
          refine wpList_nil ?_
          refine th_n (hK196 _ _ ?_)
          by_cases c223 : r219 = 1
          · refine wp_cond_true ((n222.at_).trans (congrArg Value.bool (decide_eq_true c223))) ?_
            refine reg_start (N := 103) (m := 8) (by kernel_rfl) (fun R2240 => ?_)
            have e225 := n222.ne rfl (n221.ne rfl (n220.ne rfl (n217.ne rfl (n215.ne rfl (n214.ne rfl (n211.ne rfl (n210.ne rfl (n208.ne rfl (n203.ne rfl (n202.ne rfl (n201.ne rfl (n200.ne rfl (n198.ne rfl (n197.ne rfl (n186.ne rfl (n169.ne rfl (n168.ne rfl (n167.ne rfl (n165.ne rfl (n160.ne rfl s9I146))))))))))))))))))))
            have R2241 := R2240.snoc (n' := 1) rfl (fun vJ _ => vJ = .agg (wArr X)) rfl (fun _ _ _ _ h => h) (fun aS wS pS => by
                exact Does.val (wn _ rfl) (o_ldR ((pS.old 9 rfl).trans e225) (Bk.gr B192 (gr_drew pS.gr)) Try.underlying87 rfl (dots_sz X)) (Gr.refl _) rfl rfl)
            have e226 := n222.ne rfl (n221.ne rfl (n220.ne rfl (n217.ne rfl (n215.ne rfl (n214.ne rfl (n211.ne rfl (n210.ne rfl (n208.ne rfl (n203.ne rfl (n202.ne rfl (n201.ne rfl (n200.ne rfl (n198.ne rfl (n197.ne rfl (n186.ne rfl n169.at_)))))))))))))))
            have R2242 := R2241.snoc (n' := 2) rfl (fun vJ _ => vJ = .pointer (some ⟨b170, 6, none⟩)) rfl (fun _ _ _ _ h => h) (fun aS wS pS => by
                exact Does.val (wn _ rfl) (o_fa (z := 2) ((pS.old 11 rfl).trans e226) Try.underlying32 rfl (by kernel_rfl) rfl rfl) (Gr.refl _) rfl rfl)
            have R2243 := R2242.snoc (n' := 3) rfl (fun vJ _ => vJ = .agg #[.slice xh166.va xh166.d.V.length xh166.vc, .slice xh166.ma xh166.d.M.length xh166.mc]) rfl (fun _ _ _ _ h => h) (fun aS wS pS => by
                have eR224_1 : aS.eval (.tmp 83) = .pointer (some ⟨b170, 6, none⟩) := pS.pre 1 rfl
                exact Does.val (wn _ rfl) (o_ldA (k := 6) (cs := [.slice xh166.va xh166.d.V.length xh166.vc, .slice xh166.ma xh166.d.M.length xh166.mc]) (eR224_1) (bk_part (Bk.gr u188b (gr_drew pS.gr)) rfl) Try.underlying30 rfl (by kernel_rfl)) (Gr.refl _) rfl rfl)
            have R2244 := R2243.snoc (n' := 4) rfl (fun vJ _ => vJ = .agg (wArr (xOf (dsV xh166.d)))) rfl (fun _ _ _ _ h => h) (fun aS wS pS => by
                have eR224_2 : aS.eval (.tmp 84) = .agg #[.slice xh166.va xh166.d.V.length xh166.vc, .slice xh166.ma xh166.d.M.length xh166.mc] := pS.pre 2 rfl
                exact Does.call (wn _ rfl) (o_f1 Try.func56 rfl rfl rfl (eR224_2)) (rallC _ xh166.d.V xh166.d.M wS (((F195).tk (tks_gr (gr_drew pS.gr))).mean _ (List.mem_of_getElem? h166x)) (chkOne_zero (hTI28.one _ (List.mem_map_of_mem (f := VerI.d) (List.mem_of_getElem? h166x)))).2.2.1) (by rintro _ w2 ⟨rfl, g⟩; exact ⟨_, rfl, g, rfl⟩) rfl)
            have R2245 := R2244.snoc (n' := 5) rfl (fun vJ _ => vJ = .agg (wArr (fun q => X q ||| xOf (dsV xh166.d) q))) rfl (fun _ _ _ _ h => h) (fun aS wS pS => by
                have eR224_0 : aS.eval (.tmp 82) = .agg (wArr X) := pS.pre 0 rfl
                have eR224_3 : aS.eval (.tmp 85) = .agg (wArr (xOf (dsV xh166.d))) := pS.pre 3 rfl
                exact Does.call (wn _ rfl) (o_f2 Try.func62 rfl rfl rfl (eR224_0) (eR224_3)) (djoin_any X (xOf (dsV xh166.d)) hPI146.ok (xOf_ok _) wS) (by rintro _ w2 ⟨rfl, g⟩; exact ⟨_, rfl, g, rfl⟩) rfl)
            have R2246 := R2245.snoc (n' := 6) rfl (fun vJ _ => vJ = .pointer (some ⟨b170, 1, none⟩)) rfl (fun _ _ _ _ h => h) (fun aS wS pS => by
                exact Does.val (wn _ rfl) (o_fa (z := 2) ((pS.old 11 rfl).trans e226) Try.underlying32 rfl (by kernel_rfl) rfl rfl) (Gr.refl _) rfl rfl)
            have R2247 := R2246.snoc (n' := 7) rfl (fun vJ _ => vJ = .agg #[.int .i64 (xh166.d.s), .int .i64 (xh166.d.c)]) rfl (fun _ _ _ _ h => h) (fun aS wS pS => by
                have eR224_5 : aS.eval (.tmp 87) = .pointer (some ⟨b170, 1, none⟩) := pS.pre 5 rfl
                exact Does.val (wn _ rfl) (o_ldA (k := 1) (cs := [.int .i64 (xh166.d.s), .int .i64 (xh166.d.c)]) (eR224_5) (bk_part (Bk.gr u188b (gr_drew pS.gr)) rfl) Try.underlying24 rfl (by kernel_rfl)) (Gr.refl _) rfl rfl)
            have hd227 := hTI28.dot hvI28 (List.mem_map_of_mem (f := VerI.d) (List.mem_of_getElem? h166x))
            have R2248 := R2247.snoc (n' := 8) rfl (fun vJ _ => vJ = .agg (wArr (withX (fun q => X q ||| xOf (dsV xh166.d) q) xh166.d.s.toNat xh166.d.c.toNat))) rfl (fun _ _ _ _ h => h) (fun aS wS pS => by
                have eR224_4 : aS.eval (.tmp 86) = .agg (wArr (fun q => X q ||| xOf (dsV xh166.d) q)) := pS.pre 4 rfl
                have eR224_6 : aS.eval (.tmp 88) = .agg #[.int .i64 (xh166.d.s), .int .i64 (xh166.d.c)] := pS.pre 6 rfl
                exact Does.call (wn _ rfl) (o_f2 Try.func63 rfl rfl rfl (eR224_4) (eR224_6)) (rwithI (fun q => X q ||| xOf (dsV xh166.d) q) xh166.d.s xh166.d.c wS (fun q => Nat.or_lt_two_pow (hPI146.ok q) (xOf_ok _ q)) hd227.1 hd227.2.1 hd227.2.2.1 hd227.2.2.2) (by rintro _ w2 ⟨rfl, g⟩; exact ⟨_, rfl, g, rfl⟩) rfl)
            refine R2248.run (k := 1) (L := #[true, true, true, true, true, true, true, true, false]) (by kernel_rfl) (by kernel_rfl) (by kernel_rfl) n222.ok (by kernel_rfl) (by kernel_rfl) (fun ap229 w230 p229 => ?_)
            have g231 := gr_drew p229.gr
            have G232 := G189.trans g231
            have B233 := B190.gr g231
            have B234 := B191.gr g231
            have B235 := B192.gr g231
            have B236 := u188b.gr g231
            have z237 := Nat.le_trans z193 g231.size
            have O238 := ow_gr O194 g231
            have F239 := F195.tk (tks_gr g231)
            have ep229_7 : ap229.eval (.tmp 89) = .agg (wArr (withX (fun q => X q ||| xOf (dsV xh166.d) q) xh166.d.s.toNat xh166.d.c.toNat)) := p229.js 7 rfl
            refine t_stR (i := 8) (by kernel_rfl) rfl rfl (wn _ rfl) (o_stR ((p229.old 9 rfl).trans e225) ep229_7 B235 (dots_sz (withX (fun q => X q ||| xOf (dsV xh166.d) q) xh166.d.s.toNat xh166.d.c.toNat)) (by rw [wArr_size, wArr_size]) (wArr_one (withX (fun q => X q ||| xOf (dsV xh166.d) q) xh166.d.s.toNat xh166.d.c.toNat))) B235 (fun w240 u241 u241b => ?_)
            have G242 : Gr w w240 := Below.upd G232 l132 u241
            have B243 := B233.upd u241 (Nat.ne_of_lt l130)
            have B244 := B234.upd u241 (Nat.ne_of_lt l131)
            have B245 := B236.upd u241 (Nat.ne_of_gt l175)
            have z246 : base ≤ w240.heap.size := by rw [u241.size]; exact z237
            have O247 := ow_upd_ne O238 u241 l133
            have F248 := F239.tk (tks_upd u241 B235 (by decide))
            refine wpAny_done (by kernel_rfl) ?_ _
            refine ib_n ?_
            refine th_n (hK163 _ _ ?_)
            refine wp_region_lit ?_
            have e249 := (p229.old 62 rfl).trans (n222.ne rfl (n221.ne rfl (n220.ne rfl (n217.ne rfl (n215.ne rfl (n214.ne rfl (n211.ne rfl (n210.ne rfl (n208.ne rfl (n203.ne rfl (n202.ne rfl (n201.ne rfl (n200.ne rfl (n198.ne rfl (n197.ne rfl (n186.ne rfl (n169.ne rfl (n168.ne rfl (n167.ne rfl (n165.ne rfl (n160.ne rfl s62I146)))))))))))))))))))))
            refine sv p229.ok rfl (wn _ rfl) rfl (o_add (r := ((k + 1 : Nat) : Int)) e249 ev_const (by omega) (by omega)) (fun an250 n250 => ?_)
            refine sv n250.ok rfl (wn _ rfl) rfl (o_mv n250.at_) (fun an251 n251 => ?_)
            refine wpList_nil ?_
            have e252 := n251.ne rfl (n250.ne rfl ((p229.old 2 rfl).trans (n222.ne rfl (n221.ne rfl (n220.ne rfl (n217.ne rfl (n215.ne rfl (n214.ne rfl (n211.ne rfl (n210.ne rfl (n208.ne rfl (n203.ne rfl (n202.ne rfl (n201.ne rfl (n200.ne rfl (n198.ne rfl (n197.ne rfl (n186.ne rfl (n169.ne rfl (n168.ne rfl (n167.ne rfl (n165.ne rfl (n160.ne rfl s2I146)))))))))))))))))))))))
            have e253 := n251.ne rfl (n250.ne rfl ((p229.old 3 rfl).trans (n222.ne rfl (n221.ne rfl (n220.ne rfl (n217.ne rfl (n215.ne rfl (n214.ne rfl (n211.ne rfl (n210.ne rfl (n208.ne rfl (n203.ne rfl (n202.ne rfl (n201.ne rfl (n200.ne rfl (n198.ne rfl (n197.ne rfl (n186.ne rfl (n169.ne rfl (n168.ne rfl (n167.ne rfl (n165.ne rfl (n160.ne rfl s3I146)))))))))))))))))))))))
            have e254 := n251.ne rfl (n250.ne rfl ((p229.old 4 rfl).trans (n222.ne rfl (n221.ne rfl (n220.ne rfl (n217.ne rfl (n215.ne rfl (n214.ne rfl (n211.ne rfl (n210.ne rfl (n208.ne rfl (n203.ne rfl (n202.ne rfl (n201.ne rfl (n200.ne rfl (n198.ne rfl (n197.ne rfl (n186.ne rfl (n169.ne rfl (n168.ne rfl (n167.ne rfl (n165.ne rfl (n160.ne rfl s4I146)))))))))))))))))))))))
            have e255 := n251.ne rfl (n250.ne rfl ((p229.old 6 rfl).trans (n222.ne rfl (n221.ne rfl (n220.ne rfl (n217.ne rfl (n215.ne rfl (n214.ne rfl (n211.ne rfl (n210.ne rfl (n208.ne rfl e207)))))))))))
            have e256 := n251.ne rfl (n250.ne rfl ((p229.old 8 rfl).trans (n222.ne rfl (n221.ne rfl (n220.ne rfl (n217.ne rfl (n215.ne rfl (n214.ne rfl (n211.ne rfl (n210.ne rfl (n208.ne rfl (n203.ne rfl (n202.ne rfl (n201.ne rfl (n200.ne rfl e199)))))))))))))))
            have e257 := n251.ne rfl (n250.ne rfl ((p229.old 9 rfl).trans e225))
            have e258 := n251.ne rfl (n250.ne rfl ((p229.old 16 rfl).trans (n222.ne rfl (n221.ne rfl (n220.ne rfl (n217.ne rfl (n215.ne rfl (n214.ne rfl (n211.ne rfl (n210.ne rfl (n208.ne rfl (n203.ne rfl (n202.ne rfl (n201.ne rfl (n200.ne rfl (n198.ne rfl (n197.ne rfl (n186.ne rfl (n169.ne rfl (n168.ne rfl (n167.ne rfl (n165.ne rfl (n160.ne rfl s16I146)))))))))))))))))))))))
            have e259 := n251.ne rfl (n250.ne rfl ((p229.old 17 rfl).trans (n222.ne rfl (n221.ne rfl (n220.ne rfl (n217.ne rfl (n215.ne rfl (n214.ne rfl (n211.ne rfl (n210.ne rfl (n208.ne rfl (n203.ne rfl (n202.ne rfl (n201.ne rfl (n200.ne rfl (n198.ne rfl (n197.ne rfl (n186.ne rfl (n169.ne rfl (n168.ne rfl (n167.ne rfl (n165.ne rfl (n160.ne rfl s17I146)))))))))))))))))))))))
            have e260 := n251.ne rfl (n250.ne rfl ((p229.old 18 rfl).trans (n222.ne rfl (n221.ne rfl (n220.ne rfl (n217.ne rfl (n215.ne rfl (n214.ne rfl (n211.ne rfl (n210.ne rfl (n208.ne rfl (n203.ne rfl (n202.ne rfl (n201.ne rfl (n200.ne rfl (n198.ne rfl (n197.ne rfl (n186.ne rfl (n169.ne rfl (n168.ne rfl (n167.ne rfl (n165.ne rfl (n160.ne rfl s18I146)))))))))))))))))))))))
            have e261 := n251.ne rfl (n250.ne rfl ((p229.old 60 rfl).trans (n222.ne rfl (n221.ne rfl (n220.ne rfl (n217.ne rfl (n215.ne rfl (n214.ne rfl (n211.ne rfl (n210.ne rfl (n208.ne rfl (n203.ne rfl (n202.ne rfl (n201.ne rfl (n200.ne rfl (n198.ne rfl (n197.ne rfl (n186.ne rfl (n169.ne rfl (n168.ne rfl (n167.ne rfl (n165.ne rfl (n160.ne rfl s60I146)))))))))))))))))))))))
            have e262 := n251.ne rfl (n250.ne rfl ((p229.old 61 rfl).trans (n222.ne rfl (n221.ne rfl (n220.ne rfl (n217.ne rfl (n215.ne rfl (n214.ne rfl (n211.ne rfl (n210.ne rfl (n208.ne rfl (n203.ne rfl (n202.ne rfl (n201.ne rfl (n200.ne rfl (n198.ne rfl (n197.ne rfl (n186.ne rfl (n169.ne rfl (n168.ne rfl (n167.ne rfl (n165.ne rfl (n160.ne rfl s61I146)))))))))))))))))))))))
            exact th_n (hKI146 _ _ _ (by omega) ⟨k + 1, (withX (fun q => X q ||| xOf (dsV xh166.d) q) xh166.d.s.toNat xh166.d.c.toNat), rfl, n251.ok, G242, e252, e253, e254, e255, e256, e257, e258, e259, e260, e261, e262, n251.at_, B243, B244, u241b, F248, O247, z246, by omega, PastOf.step hTI28 (fun s hs => Nat.le_trans (hvI28 s hs) (by omega)) (List.mem_map_of_mem (f := VerI.d) (List.mem_of_getElem? h166x)) c204 hPI146 (xOf_ok _) (fun s q _ hq => xOf_ds _ s q hq)⟩)
          · refine wp_cond_false ((n222.at_).trans (congrArg Value.bool (decide_eq_false c223))) ?_
            refine wp_skip ?_
            refine ib_n ?_
            refine th_n (hK163 _ _ ?_)
            refine wp_region_lit ?_
            have e263 := n222.ne rfl (n221.ne rfl (n220.ne rfl (n217.ne rfl (n215.ne rfl (n214.ne rfl (n211.ne rfl (n210.ne rfl (n208.ne rfl (n203.ne rfl (n202.ne rfl (n201.ne rfl (n200.ne rfl (n198.ne rfl (n197.ne rfl (n186.ne rfl (n169.ne rfl (n168.ne rfl (n167.ne rfl (n165.ne rfl (n160.ne rfl s62I146))))))))))))))))))))
            refine sv n222.ok rfl (wn _ rfl) rfl (o_add (r := ((k + 1 : Nat) : Int)) e263 ev_const (by omega) (by omega)) (fun an264 n264 => ?_)
            refine sv n264.ok rfl (wn _ rfl) rfl (o_mv n264.at_) (fun an265 n265 => ?_)
            refine wpList_nil ?_
            have e266 := n265.ne rfl (n264.ne rfl (n222.ne rfl (n221.ne rfl (n220.ne rfl (n217.ne rfl (n215.ne rfl (n214.ne rfl (n211.ne rfl (n210.ne rfl (n208.ne rfl (n203.ne rfl (n202.ne rfl (n201.ne rfl (n200.ne rfl (n198.ne rfl (n197.ne rfl (n186.ne rfl (n169.ne rfl (n168.ne rfl (n167.ne rfl (n165.ne rfl (n160.ne rfl s2I146))))))))))))))))))))))
            have e267 := n265.ne rfl (n264.ne rfl (n222.ne rfl (n221.ne rfl (n220.ne rfl (n217.ne rfl (n215.ne rfl (n214.ne rfl (n211.ne rfl (n210.ne rfl (n208.ne rfl (n203.ne rfl (n202.ne rfl (n201.ne rfl (n200.ne rfl (n198.ne rfl (n197.ne rfl (n186.ne rfl (n169.ne rfl (n168.ne rfl (n167.ne rfl (n165.ne rfl (n160.ne rfl s3I146))))))))))))))))))))))
            have e268 := n265.ne rfl (n264.ne rfl (n222.ne rfl (n221.ne rfl (n220.ne rfl (n217.ne rfl (n215.ne rfl (n214.ne rfl (n211.ne rfl (n210.ne rfl (n208.ne rfl (n203.ne rfl (n202.ne rfl (n201.ne rfl (n200.ne rfl (n198.ne rfl (n197.ne rfl (n186.ne rfl (n169.ne rfl (n168.ne rfl (n167.ne rfl (n165.ne rfl (n160.ne rfl s4I146))))))))))))))))))))))
            have e269 := n265.ne rfl (n264.ne rfl (n222.ne rfl (n221.ne rfl (n220.ne rfl (n217.ne rfl (n215.ne rfl (n214.ne rfl (n211.ne rfl (n210.ne rfl (n208.ne rfl e207))))))))))
            have e270 := n265.ne rfl (n264.ne rfl (n222.ne rfl (n221.ne rfl (n220.ne rfl (n217.ne rfl (n215.ne rfl (n214.ne rfl (n211.ne rfl (n210.ne rfl (n208.ne rfl (n203.ne rfl (n202.ne rfl (n201.ne rfl (n200.ne rfl e199))))))))))))))
            have e271 := n265.ne rfl (n264.ne rfl (n222.ne rfl (n221.ne rfl (n220.ne rfl (n217.ne rfl (n215.ne rfl (n214.ne rfl (n211.ne rfl (n210.ne rfl (n208.ne rfl (n203.ne rfl (n202.ne rfl (n201.ne rfl (n200.ne rfl (n198.ne rfl (n197.ne rfl (n186.ne rfl (n169.ne rfl (n168.ne rfl (n167.ne rfl (n165.ne rfl (n160.ne rfl s9I146))))))))))))))))))))))
            have e272 := n265.ne rfl (n264.ne rfl (n222.ne rfl (n221.ne rfl (n220.ne rfl (n217.ne rfl (n215.ne rfl (n214.ne rfl (n211.ne rfl (n210.ne rfl (n208.ne rfl (n203.ne rfl (n202.ne rfl (n201.ne rfl (n200.ne rfl (n198.ne rfl (n197.ne rfl (n186.ne rfl (n169.ne rfl (n168.ne rfl (n167.ne rfl (n165.ne rfl (n160.ne rfl s16I146))))))))))))))))))))))
            have e273 := n265.ne rfl (n264.ne rfl (n222.ne rfl (n221.ne rfl (n220.ne rfl (n217.ne rfl (n215.ne rfl (n214.ne rfl (n211.ne rfl (n210.ne rfl (n208.ne rfl (n203.ne rfl (n202.ne rfl (n201.ne rfl (n200.ne rfl (n198.ne rfl (n197.ne rfl (n186.ne rfl (n169.ne rfl (n168.ne rfl (n167.ne rfl (n165.ne rfl (n160.ne rfl s17I146))))))))))))))))))))))
            have e274 := n265.ne rfl (n264.ne rfl (n222.ne rfl (n221.ne rfl (n220.ne rfl (n217.ne rfl (n215.ne rfl (n214.ne rfl (n211.ne rfl (n210.ne rfl (n208.ne rfl (n203.ne rfl (n202.ne rfl (n201.ne rfl (n200.ne rfl (n198.ne rfl (n197.ne rfl (n186.ne rfl (n169.ne rfl (n168.ne rfl (n167.ne rfl (n165.ne rfl (n160.ne rfl s18I146))))))))))))))))))))))
            have e275 := n265.ne rfl (n264.ne rfl (n222.ne rfl (n221.ne rfl (n220.ne rfl (n217.ne rfl (n215.ne rfl (n214.ne rfl (n211.ne rfl (n210.ne rfl (n208.ne rfl (n203.ne rfl (n202.ne rfl (n201.ne rfl (n200.ne rfl (n198.ne rfl (n197.ne rfl (n186.ne rfl (n169.ne rfl (n168.ne rfl (n167.ne rfl (n165.ne rfl (n160.ne rfl s60I146))))))))))))))))))))))
            have e276 := n265.ne rfl (n264.ne rfl (n222.ne rfl (n221.ne rfl (n220.ne rfl (n217.ne rfl (n215.ne rfl (n214.ne rfl (n211.ne rfl (n210.ne rfl (n208.ne rfl (n203.ne rfl (n202.ne rfl (n201.ne rfl (n200.ne rfl (n198.ne rfl (n197.ne rfl (n186.ne rfl (n169.ne rfl (n168.ne rfl (n167.ne rfl (n165.ne rfl (n160.ne rfl s61I146))))))))))))))))))))))
            exact th_n (hKI146 _ _ _ (by omega) ⟨k + 1, X, rfl, n265.ok, G189, e266, e267, e268, e269, e270, e271, e272, e273, e274, e275, e276, n265.at_, B190, B191, B192, F195, O194, z193, by omega, by omega⟩)
        · have e277 := (n203.at_).trans (congrArg Value.bool (decide_eq_false c204))
          have e278 := ((n203.ne rfl n202.at_)).trans (congrArg Value.bool (decide_eq_false c204))
          refine sn n203.ok rfl (wgF rfl (yl 5 false rfl e277) rfl) rfl (fun an279 n279 => ?_)
          refine sn n279.ok rfl (wgF rfl (yl 5 false rfl (n279.ne rfl e277)) rfl) rfl (fun an280 n280 => ?_)
          refine sn n280.ok rfl (wgF rfl (yl 5 false rfl (n280.ne rfl (n279.ne rfl e277))) rfl) rfl (fun an281 n281 => ?_)
          have e282 := n281.ne rfl (n280.ne rfl (n279.ne rfl e277))
          refine sn n281.ok rfl (wgF rfl (yl 5 false rfl e282) rfl) rfl (fun an283 n283 => ?_)
          refine sn n283.ok rfl (wgF rfl (yl 5 false rfl (n283.ne rfl e282)) rfl) rfl (fun an284 n284 => ?_)
          refine sn n284.ok rfl (wgF rfl (yl 5 false rfl (n284.ne rfl (n283.ne rfl e282))) rfl) rfl (fun an285 n285 => ?_)
          have e286 := n285.ne rfl (n284.ne rfl (n283.ne rfl e282))
          refine sn n285.ok rfl (wgF rfl (yl 5 false rfl e286) rfl) rfl (fun an287 n287 => ?_)
          refine sn n287.ok rfl (wgF rfl (yl 5 false rfl (n287.ne rfl e286)) rfl) rfl (fun an288 n288 => ?_)
          refine sv n288.ok rfl (wn _ rfl) rfl (o_pkF (n288.ne rfl (n287.ne rfl e286)) ev_const) (fun an289 n289 => ?_)
          refine wpList_nil ?_
          refine th_n (hK196 _ _ ?_)
          refine wp_cond_false (n289.at_) ?_
          refine wp_skip ?_
          refine ib_n ?_
          refine th_n (hK163 _ _ ?_)
          refine wp_region_lit ?_
          have e290 := n289.ne rfl (n288.ne rfl (n287.ne rfl (n285.ne rfl (n284.ne rfl (n283.ne rfl (n281.ne rfl (n280.ne rfl (n279.ne rfl (n203.ne rfl (n202.ne rfl (n201.ne rfl (n200.ne rfl (n198.ne rfl (n197.ne rfl (n186.ne rfl (n169.ne rfl (n168.ne rfl (n167.ne rfl (n165.ne rfl (n160.ne rfl s62I146))))))))))))))))))))
          refine sv n289.ok rfl (wn _ rfl) rfl (o_add (r := ((k + 1 : Nat) : Int)) e290 ev_const (by omega) (by omega)) (fun an291 n291 => ?_)
          refine sv n291.ok rfl (wn _ rfl) rfl (o_mv n291.at_) (fun an292 n292 => ?_)
          refine wpList_nil ?_
          have e293 := n292.ne rfl (n291.ne rfl (n289.ne rfl (n288.ne rfl (n287.ne rfl (n285.ne rfl (n284.ne rfl (n283.ne rfl (n281.ne rfl (n280.ne rfl (n279.ne rfl (n203.ne rfl (n202.ne rfl (n201.ne rfl (n200.ne rfl (n198.ne rfl (n197.ne rfl (n186.ne rfl (n169.ne rfl (n168.ne rfl (n167.ne rfl (n165.ne rfl (n160.ne rfl s2I146))))))))))))))))))))))
          have e294 := n292.ne rfl (n291.ne rfl (n289.ne rfl (n288.ne rfl (n287.ne rfl (n285.ne rfl (n284.ne rfl (n283.ne rfl (n281.ne rfl (n280.ne rfl (n279.ne rfl (n203.ne rfl (n202.ne rfl (n201.ne rfl (n200.ne rfl (n198.ne rfl (n197.ne rfl (n186.ne rfl (n169.ne rfl (n168.ne rfl (n167.ne rfl (n165.ne rfl (n160.ne rfl s3I146))))))))))))))))))))))
          have e295 := n292.ne rfl (n291.ne rfl (n289.ne rfl (n288.ne rfl (n287.ne rfl (n285.ne rfl (n284.ne rfl (n283.ne rfl (n281.ne rfl (n280.ne rfl (n279.ne rfl (n203.ne rfl (n202.ne rfl (n201.ne rfl (n200.ne rfl (n198.ne rfl (n197.ne rfl (n186.ne rfl (n169.ne rfl (n168.ne rfl (n167.ne rfl (n165.ne rfl (n160.ne rfl s4I146))))))))))))))))))))))
          have e296 := n292.ne rfl (n291.ne rfl (n289.ne rfl (n288.ne rfl (n287.ne rfl (n285.ne rfl (n284.ne rfl (n283.ne rfl (n281.ne rfl (n280.ne rfl (n279.ne rfl (n203.ne rfl (n202.ne rfl (n201.ne rfl (n200.ne rfl (n198.ne rfl (n197.ne rfl (n186.ne rfl (n169.ne rfl (n168.ne rfl (n167.ne rfl (n165.ne rfl (n160.ne rfl s6I146))))))))))))))))))))))
          have e297 := n292.ne rfl (n291.ne rfl (n289.ne rfl (n288.ne rfl (n287.ne rfl (n285.ne rfl (n284.ne rfl (n283.ne rfl (n281.ne rfl (n280.ne rfl (n279.ne rfl (n203.ne rfl (n202.ne rfl (n201.ne rfl (n200.ne rfl e199))))))))))))))
          have e298 := n292.ne rfl (n291.ne rfl (n289.ne rfl (n288.ne rfl (n287.ne rfl (n285.ne rfl (n284.ne rfl (n283.ne rfl (n281.ne rfl (n280.ne rfl (n279.ne rfl (n203.ne rfl (n202.ne rfl (n201.ne rfl (n200.ne rfl (n198.ne rfl (n197.ne rfl (n186.ne rfl (n169.ne rfl (n168.ne rfl (n167.ne rfl (n165.ne rfl (n160.ne rfl s9I146))))))))))))))))))))))
          have e299 := n292.ne rfl (n291.ne rfl (n289.ne rfl (n288.ne rfl (n287.ne rfl (n285.ne rfl (n284.ne rfl (n283.ne rfl (n281.ne rfl (n280.ne rfl (n279.ne rfl (n203.ne rfl (n202.ne rfl (n201.ne rfl (n200.ne rfl (n198.ne rfl (n197.ne rfl (n186.ne rfl (n169.ne rfl (n168.ne rfl (n167.ne rfl (n165.ne rfl (n160.ne rfl s16I146))))))))))))))))))))))
          have e300 := n292.ne rfl (n291.ne rfl (n289.ne rfl (n288.ne rfl (n287.ne rfl (n285.ne rfl (n284.ne rfl (n283.ne rfl (n281.ne rfl (n280.ne rfl (n279.ne rfl (n203.ne rfl (n202.ne rfl (n201.ne rfl (n200.ne rfl (n198.ne rfl (n197.ne rfl (n186.ne rfl (n169.ne rfl (n168.ne rfl (n167.ne rfl (n165.ne rfl (n160.ne rfl s17I146))))))))))))))))))))))
          have e301 := n292.ne rfl (n291.ne rfl (n289.ne rfl (n288.ne rfl (n287.ne rfl (n285.ne rfl (n284.ne rfl (n283.ne rfl (n281.ne rfl (n280.ne rfl (n279.ne rfl (n203.ne rfl (n202.ne rfl (n201.ne rfl (n200.ne rfl (n198.ne rfl (n197.ne rfl (n186.ne rfl (n169.ne rfl (n168.ne rfl (n167.ne rfl (n165.ne rfl (n160.ne rfl s18I146))))))))))))))))))))))
          have e302 := n292.ne rfl (n291.ne rfl (n289.ne rfl (n288.ne rfl (n287.ne rfl (n285.ne rfl (n284.ne rfl (n283.ne rfl (n281.ne rfl (n280.ne rfl (n279.ne rfl (n203.ne rfl (n202.ne rfl (n201.ne rfl (n200.ne rfl (n198.ne rfl (n197.ne rfl (n186.ne rfl (n169.ne rfl (n168.ne rfl (n167.ne rfl (n165.ne rfl (n160.ne rfl s60I146))))))))))))))))))))))
          have e303 := n292.ne rfl (n291.ne rfl (n289.ne rfl (n288.ne rfl (n287.ne rfl (n285.ne rfl (n284.ne rfl (n283.ne rfl (n281.ne rfl (n280.ne rfl (n279.ne rfl (n203.ne rfl (n202.ne rfl (n201.ne rfl (n200.ne rfl (n198.ne rfl (n197.ne rfl (n186.ne rfl (n169.ne rfl (n168.ne rfl (n167.ne rfl (n165.ne rfl (n160.ne rfl s61I146))))))))))))))))))))))
          exact th_n (hKI146 _ _ _ (by omega) ⟨k + 1, X, rfl, n292.ok, G189, e293, e294, e295, e296, e297, e298, e299, e300, e301, e302, e303, n292.at_, B190, B191, B192, F195, O194, z193, by omega, by omega⟩)
      · refine wp_cond_false ((n160.at_).trans (congrArg Value.bool (decide_eq_false c162))) ?_
        refine wp_exit ?_
        refine th_x ?_
        refine th_x ?_
        refine ib_x ?_
        refine th_n (hK140 _ _ ?_)
        refine wp_seq_k (fun K304 hK304 => ?_)
        refine wp_region_lit ?_
        refine sv n160.ok rfl (wn _ rfl) rfl (o_ldR (n160.ne rfl s9I146) kb127I146 Try.underlying87 rfl (dots_sz X)) (fun an305 n305 => ?_)
        refine sc n305.ok rfl (wn _ rfl) rfl (o_f1 Try.func66 rfl rfl rfl n305.at_) (rform_any X hPI146.ok w158) ?_
        rintro _ w307 ⟨kk, rfl, hkk, g308⟩
        obtain ⟨va1, vc1, ma1, mc1, rfl⟩ := hkk.form
        refine ⟨_, rfl, fun an306 n306 => ?_⟩
        have G309 := GI146.trans g308
        have B310 := kb7I146.gr g308
        have B311 := kb105I146.gr g308
        have B312 := kb127I146.gr g308
        have z313 := Nat.le_trans zbaseI146 g308.size
        have O314 := ow_gr orI146 g308
        have F315 := fpsI146.tk (tks_gr g308)
        refine sv n306.ok rfl (wn _ rfl) rfl (o_mv n306.at_) (fun an316 n316 => ?_)
        refine sv n316.ok rfl (wn _ rfl) rfl (o_ex n316.at_ rfl) (fun an317 n317 => ?_)
        refine sv n317.ok rfl (wn _ rfl) rfl (o_ex (n317.ne rfl n316.at_) rfl) (fun an318 n318 => ?_)
        have e319 := n318.ne rfl (n317.ne rfl (n316.ne rfl (n306.ne rfl (n305.ne rfl (n160.ne rfl s8I146)))))
        refine sv n318.ok rfl (wn _ rfl) rfl (o_fa (z := 2) e319 Try.underlying32 rfl (by kernel_rfl) rfl rfl) (fun an320 n320 => ?_)
        refine ssP (vs := [.slice va1 ((ints (formV (dsX X))).length) vc1, .slice ma1 ((pairs (formM (dsX X))).length) mc1]) (cs' := #[.string (bs (idOf (wi xh96 2))), .int .i64 ((wi xh62 5 : Nat) : Int), .int .i64 (((cv (setC v (wi xh62 5) (((cv v (wi xh62 5))) + 1)) (wi xh62 5)) : Nat) : Int), .int .i64 ((wi xh99 16 : Nat) : Int), .int .i64 ((wi xh101 32 : Nat) : Int), .int .i64 ((wi xh103 1000 : Nat) : Int), .slice va1 ((ints (formV (dsX X))).length) vc1, .slice ma1 ((pairs (formM (dsX X))).length) mc1]) (wn _ rfl) n320.at_ (n320.ne rfl (n318.ne rfl n317.at_)) (by kernel_rfl) B311 rfl (by simp [Value.oneCell']) rfl (fun w321 u322 u322b => ?_)
        have G323 : Gr w w321 := Below.upd G309 l116 u322
        have B324 := B310.upd u322 (Nat.ne_of_lt l115)
        have B325 := B312.upd u322 (Nat.ne_of_gt l131)
        have z326 : base ≤ w321.heap.size := by rw [u322.size]; exact z313
        have O327 := ow_upd_ne O314 u322 l117
        have F328 := F315.tk (tks_upd u322 B311 (by decide))
        have F329 := KnO.tks (hkk.less zbaseI146) (tks_upd u322 B311 (by decide))
        refine wpList_nil ?_
        refine th_n (hK304 _ _ ?_)
        refine wp_region_lit ?_
        have e330 := n320.ne rfl (n318.ne rfl (n317.ne rfl (n316.ne rfl (n306.ne rfl (n305.ne rfl (n160.ne rfl s3I146))))))
        refine sv n320.ok rfl (wn _ rfl) rfl (o_mv e330) (fun an331 n331 => ?_)
        refine sv n331.ok rfl (wn _ rfl) rfl (o_ldR (n331.ne rfl (n320.ne rfl e319)) u322b Try.underlying32 rfl (by kernel_rfl)) (fun an332 n332 => ?_)
        obtain ⟨i333, i333a, i333b, i333c⟩ := info3_of (show (Try.prog.info? 32).map (fun i => (i.zero, i.size)) = some (some (.agg #[.string (bs []), .int .i64 0, .int .i64 0, .int .i64 0, .int .i64 0, .int .i64 0, .slice none 0 0, .slice none 0 0]), 8) by kernel_rfl)
        refine sals (cs := #[.string (bs (idOf (wi xh96 2))), .int .i64 ((wi xh62 5 : Nat) : Int), .int .i64 (((cv (setC v (wi xh62 5) (((cv v (wi xh62 5))) + 1)) (wi xh62 5)) : Nat) : Int), .int .i64 ((wi xh99 16 : Nat) : Int), .int .i64 ((wi xh101 32 : Nat) : Int), .int .i64 ((wi xh103 1000 : Nat) : Int), .slice va1 ((ints (formV (dsX X))).length) vc1, .slice ma1 ((pairs (formM (dsX X))).length) mc1]) n332.ok rfl (wn _ rfl) rfl (o_bs (vs := [(0, .agg #[.string (bs (idOf (wi xh96 2))), .int .i64 ((wi xh62 5 : Nat) : Int), .int .i64 (((cv (setC v (wi xh62 5) (((cv v (wi xh62 5))) + 1)) (wi xh62 5)) : Nat) : Int), .int .i64 ((wi xh99 16 : Nat) : Int), .int .i64 ((wi xh101 32 : Nat) : Int), .int .i64 ((wi xh103 1000 : Nat) : Int), .slice va1 ((ints (formV (dsX X))).length) vc1, .slice ma1 ((pairs (formM (dsX X))).length) mc1])]) (by simp [n332.at_, ev_const]) Try.underlying22 i333a i333b (by rw [i333c]; rfl) (by rw [i333c]; rfl) (by rw [i333c]; kernel_rfl)) (fun an334 w336 b335 W337 n334 => ?_)
        have l338 : b7 < b335 := by rw [W337.eq]; exact B324.lt
        have l339 : b105 < b335 := by rw [W337.eq]; exact u322b.lt
        have l340 : b127 < b335 := by rw [W337.eq]; exact B325.lt
        have l341 : w.heap.size ≤ b335 := by rw [W337.eq]; exact G323.size
        have l342 : ∀ k, Value.ownBlock (.slice ra (R.length) rc) = some k → k < b335 := fun k e => by rw [W337.eq]; exact ow_in O327 k e
        have G343 := G323.trans W337.gr
        have B344 := B324.gr W337.gr
        have B345 := u322b.gr W337.gr
        have B346 := B325.gr W337.gr
        have z347 := Nat.le_trans z326 W337.gr.size
        have O348 := ow_gr O327 W337.gr
        have F349 := F328.tk (tks_gr W337.gr)
        have F350 := KnO.tks F329 (tks_gr W337.gr)
        obtain ⟨y1, hy1⟩ : ∃ y, y = (⟨newV (idOf (wi xh96 2)) (wi xh62 5) ((cv (setC v (wi xh62 5) (((cv v (wi xh62 5))) + 1)) (wi xh62 5))) (wi xh99 16) (wi xh101 32) (wi xh103 1000) (dsX X), va1, vc1, ma1, mc1⟩ : VerI) := ⟨_, rfl⟩
        have hcell : ∀ j u, (encVr y1)[j]? = some u → w336.cell? ⟨b335, 0 + j, none⟩ = some u := by subst hy1; exact fun j u hu => bk_part W337.bk (k := 0) (l := encVr (⟨newV (idOf (wi xh96 2)) (wi xh62 5) ((cv (setC v (wi xh62 5) (((cv v (wi xh62 5))) + 1)) (wi xh62 5))) (wi xh99 16) (wi xh101 32) (wi xh103 1000) (dsX X), va1, vc1, ma1, mc1⟩ : VerI)) (by unfold encVr; simp only [newV]; rfl) j u hu
        have hown1 : OwnVr base w336 y1 := by subst hy1; exact ⟨formV (dsX X), formM (dsX X), (by simp only [newV]), (by simp only [newV]), (by unfold VerI.k; simp only [newV]; exact F350)⟩
        obtain ⟨i351, i351a, i351b, i351c, i351d⟩ := info_of (show (Try.prog.info? 32).map (fun i => (i.zero, i.size, i.bytes)) = some (some (.agg #[.string (bs []), .int .i64 0, .int .i64 0, .int .i64 0, .int .i64 0, .int .i64 0, .slice none 0 0, .slice none 0 0]), 8, 104) by kernel_rfl)
        refine s_app (base := base) (n := R.length) (xs := (flatE encVr R)) (m := 1) (news := encVr y1) n334.ok (wn _ rfl) rfl Try.underlying22 i351a i351b i351c i351d rfl (by omega) (n334.ne rfl (n332.ne rfl n331.at_)) O348 n334.at_ rfl ((fun j u hu => by rw [add_n]; exact hcell j u hu)) (encVr_ok.one y1) (by simp only [maxLen]; omega) (by omega) z347 (fun an352 w353 v354 O357 gg358 n352 => ?_)
        obtain ⟨a355, c356, rfl, c356l⟩ := ow_form O357
        have G359 := Gr.grown G343 gg358 (fun k e => Nat.le_trans l25 (ow_lt O348 k e))
        have B360 := B344.grown gg358 (ow_lt O348) l24
        have B361 := B345.grown_ne gg358 l117
        have B362 := B346.grown_ne gg358 l133
        have B363 := W337.bk.grown_ne gg358 l342
        have z364 := Nat.le_trans z347 gg358.size
        have F365 := F349.tk (tks_grown O348 gg358 (by decide))
        have F366 := hown1.tk (tks_grown O348 gg358 (by decide))
        have O367 : w353.ownsRow base 32 8 (.slice a355 ((R.length + 1)) c356) ((R.length + 1)) ((flatE encVr (R ++ [y1]))) := by have h := O357; rw [← flatE_one (enc := encVr) y1, ← flatE_app] at h; exact h
        have hps368 := F365.snoc F366
        refine sv n352.ok rfl (wn _ rfl) rfl (o_as n352.at_) (fun an369 n369 => ?_)
        refine wpList_nil ?_
        refine ib_n ?_
        refine th_n (hK39 _ _ ?_)
        refine wp_region_lit ?_
        have e370 := n369.ne rfl (n352.ne rfl (n334.ne rfl (n332.ne rfl (n331.ne rfl (n320.ne rfl (n318.ne rfl (n317.ne rfl (n316.ne rfl (n306.ne rfl (n305.ne rfl (n160.ne rfl s18I146)))))))))))
        refine sv n369.ok rfl (wn _ rfl) rfl (o_add (r := ((i + 1 : Nat) : Int)) e370 ev_const (by omega) (by omega)) (fun an371 n371 => ?_)
        refine sv n371.ok rfl (wn _ rfl) rfl (o_mv n371.at_) (fun an372 n372 => ?_)
        refine wpList_nil ?_
        have hcs : ((cv (setC v (wi xh62 5) (((cv v (wi xh62 5))) + 1)) (wi xh62 5))) = cv v (wi xh62 5) + 1 := by rw [cv_setC _ _ _ _ (wi_lt _ 5 (by omega)) (wi_lt _ 5 (by omega)), if_pos rfl]
        have e373 := n372.ne rfl (n371.ne rfl (n369.ne rfl (n352.ne rfl (n334.ne rfl (n332.ne rfl (n331.ne rfl (n320.ne rfl (n318.ne rfl (n317.ne rfl (n316.ne rfl (n306.ne rfl (n305.ne rfl (n160.ne rfl s2I146)))))))))))))
        have e374 := n372.ne rfl (n371.ne rfl (n369.ne rfl (n352.ne rfl (n334.ne rfl (n332.ne rfl (n331.ne rfl (n320.ne rfl (n318.ne rfl (n317.ne rfl (n316.ne rfl (n306.ne rfl (n305.ne rfl (n160.ne rfl s4I146)))))))))))))
        have e375 := n372.ne rfl (n371.ne rfl (n369.ne rfl (n352.ne rfl (n334.ne rfl (n332.ne rfl (n331.ne rfl (n320.ne rfl (n318.ne rfl (n317.ne rfl (n316.ne rfl (n306.ne rfl (n305.ne rfl (n160.ne rfl s16I146)))))))))))))
        have e376 := n372.ne rfl (n371.ne rfl (n369.ne rfl (n352.ne rfl (n334.ne rfl (n332.ne rfl (n331.ne rfl (n320.ne rfl (n318.ne rfl (n317.ne rfl (n316.ne rfl (n306.ne rfl (n305.ne rfl (n160.ne rfl s17I146)))))))))))))
        exact th_n (hKI28 _ _ _ (by omega) ⟨i + 1, R ++ [y1], (setC v (wi xh62 5) (cv v (wi xh62 5) + 1)), a355, c356, rfl, n372.ok, G359, e373, (by simpa using (n372.ne rfl (n371.ne rfl n369.at_))), e374, e375, e376, n372.at_, B360, hps368, (by simpa using O367), z364, by omega, by rw [List.map_append, hy1]; simp only [List.map_cons, List.map_nil]; rw [hcs]; exact ToldV.snoc hTI28 (fun s hs => Nat.le_trans (hvI28 s hs) (by omega)) (wi_lt _ 5 (by omega)) (idOf_ok _) (wi_lt _ 16 (by omega)) (wi_lt _ 32 (by omega)) (by have := wi_lt xh103 1000 (by omega); omega) hPI146 (PastOf.few hTI28 hPI146 (by omega)), sum_set (wi_lt _ 5 (by omega)) hsI28, (by rw [List.length_append, List.length_singleton]; omega), (fun x hx => (List.mem_append.1 hx).elim (hidI28 x) (fun h => by rw [List.mem_singleton.1 h, hy1]; exact idOf_or _))⟩)
  · refine wp_cond_false ((n36.at_).trans (congrArg Value.bool (decide_eq_false c38))) ?_
    refine wp_exit ?_
    refine th_x ?_
    refine th_x ?_
    refine ib_x ?_
    refine th_n (hK12 _ _ ?_)
    refine wp_seq_k (fun K377 hK377 => ?_)
    refine wp_region_lit ?_
    refine sv n36.ok rfl (wn _ rfl) rfl (o_mv (n36.ne rfl s3I28)) (fun an378 n378 => ?_)
    refine sv n378.ok rfl (wn _ rfl) rfl (o_as n378.at_) (fun an379 n379 => ?_)
    refine wpList_nil ?_
    refine th_n (hK377 _ _ ?_)
    refine wp_ret ?_
    exact ret1 n379.ok rfl (n379.at_) ⟨R, ra, rc, v, rfl, hTI28, (fun s hs => Nat.le_trans (cv_sum hsI28 s hs) (by omega)), (by omega), RdA.own encVr_ok orI28 rfl, fpsI28.mean, ow_capf orI28, Nat.le_trans hsI28 (by omega), hidI28, GI28⟩
theorem told_any (v : Value) (L : List (List Int)) (w : World) (h : RdLL w v L) : Calls Try.prog 23 #[v] w fun e w' => ∃ (R : List VerI) (a : Option Addr) (c : Nat) (v : List Nat), e = .returned (.slice a R.length c) ∧ ToldV v (R.map VerI.d) ∧ (∀ s, s < 5 → cv v s ≤ 20) ∧ R.length ≤ 20 ∧ RdA encVr 8 w' a R ∧ MeansV w' R ∧ (R.length ≤ c ∧ (a = none → c = 0)) ∧ cv v 0 + cv v 1 + cv v 2 + cv v 3 + cv v 4 ≤ 20 ∧ (∀ x ∈ R, x.d.id = [97] ∨ x.d.id = [98]) ∧ Gr w w' := by
  obtain ⟨a, c, rfl, hc, h⟩ := h
  exact told_k a c L hc w h
end Go.Proofs.Ytoencnbpjjkjnaa

/- What drops and a put behind them leave. -/
set_option linter.unusedVariables false
set_option linter.unusedSimpArgs false
namespace Rm
open Go Go.RowKit Gx
theorem okS_dots {L : List VerD} (h : OkS L) : ∀ x ∈ L, dotB (x.s, x.c) = true := fun x hx => argB_dot (chkOne_zero (h.one x hx)).2.1
/-- what was told stays below -/
theorem ToldV.low {v : List Nat} {T : List VerD} (hT : ToldV v T) (hv : ∀ s, s < 5 → cv v s ≤ 20) {x : VerD} (hx : x ∈ T) : x.c ≤ 20 ∧ ∀ s, dsV x s 900 = false := by
  refine ⟨?_, fun s => ?_⟩
  · obtain ⟨s, c, h1, h2, h3, h4, h5⟩ := hT.cnt x hx
    have := hv s h3
    omega
  · cases q : dsV x s 900
    · rfl
    · obtain ⟨y, hy, -, e1, e2⟩ := hT.from_ x hx s 900 q
      obtain ⟨a, c, h1, h2, h3, h4, h5⟩ := hT.cnt y hy
      have := hv a h3
      omega
end Rm
namespace Go.Proofs.Ytoencnbpjjkjnaa
open Go.RowKit Rm Gx
end Go.Proofs.Ytoencnbpjjkjnaa

/- slices.Clone, Concat, Reverse at versions; reedref.Over; the closures of ShelfOrder. -/
set_option linter.unusedVariables false
set_option linter.unusedSimpArgs false
namespace Gx
open Go Go.RowKit Rm
section
variable {P : Program} {ops : Array Oper} {Q : Exit → Act → World → Prop} {N : Nat} {S : World → Prop}
variable {E : Type} {enc : E → List Value} {s : Nat}
/-- where a part of a slice begins -/
def offA (a : Option Addr) (c k s : Nat) : Option Addr := a.map fun p => if c = k then p else p.add (k * s)
end
section
variable {P : Program} {ev : Operand → Value} {d : Option Tmp} {ty : TypeId} {p : String} {af : Array Edge} {g : Option (Nat × Bool)} {w : World}
theorem RdA.drop {E : Type} {enc : E → List Value} {s : Nat} {a : Option Addr} {K : List E} {c k : Nat} (h : RdA enc s w a K) (hc : K.length ≤ c) : RdA enc s w (offA a c k s) (K.drop k) := fun hn => by
  have hk : k < K.length := by
    rcases Nat.lt_or_ge k K.length with q | q
    · exact q
    · exact absurd (List.drop_eq_nil_of_le q) hn
  obtain ⟨b, off, rfl, hb, hx⟩ := h (fun q => by rw [q] at hk; simp at hk)
  refine ⟨b, off + k * s, ?_, hb, fun i x hi j u hu => ?_⟩
  · unfold offA
    rw [Option.map_some, if_neg (by omega), add_n]
  · rw [List.getElem?_drop] at hi
    have := hx (k + i) x hi j u hu
    rw [Nat.add_mul] at this
    rw [show off + k * s + i * s + j = off + (k * s + i * s) + j by omega]
    exact this
theorem RdA.take {E : Type} {enc : E → List Value} {s : Nat} {a : Option Addr} {K : List E} {k : Nat} (h : RdA enc s w a K) : RdA enc s w a (K.take k) := fun hn => by
  obtain ⟨b, off, e, hb, hx⟩ := h (fun q => hn (by rw [q, List.take_nil]))
  refine ⟨b, off, e, hb, fun i x hi j u hu => hx i x ?_ j u hu⟩
  have hl := (List.getElem?_eq_some_iff.1 hi).1
  rw [List.length_take] at hl
  rwa [List.getElem?_take_of_lt (by omega)] at hi
end
end Gx
namespace Go.Proofs.Ytoencnbpjjkjnaa
open Go.RowKit Rm Gx
end Go.Proofs.Ytoencnbpjjkjnaa

/- Rows of integers as they are given, with their sizes; slices.Concat over two of them. -/
set_option linter.unusedVariables false
set_option linter.unusedSimpArgs false
namespace Go.Proofs.Ytoencnbpjjkjnaa
open Go.RowKit Rm Gx
/-- the rows of a slice -/
def RdLc (w : World) (a : Option Addr) (L : List (List Int)) : Prop := L ≠ [] → ∃ b off, a = some ⟨b, off, none⟩ ∧ b < w.heap.size ∧ ∀ i x, L[i]? = some x → ∃ ua uc, w.cell? ⟨b, off + i * 1, none⟩ = some (.slice ua x.length uc) ∧ RdI1 w ua x
theorem RdLc.gr {w w' : World} {a : Option Addr} {L : List (List Int)} (h : RdLc w a L) (g : Gr w w') : RdLc w' a L := fun hn => by
  obtain ⟨b, off, e, hb, hx⟩ := h hn
  refine ⟨b, off, e, Nat.lt_of_lt_of_le hb g.le, fun i x hi => ?_⟩
  obtain ⟨ua, uc, h1, h2⟩ := hx i x hi
  exact ⟨ua, uc, (g.cells.1 b _ hb).trans h1, h2.gr g⟩
theorem RdLc.take {w : World} {a : Option Addr} {L : List (List Int)} {k : Nat} (h : RdLc w a L) : RdLc w a (L.take k) := fun hn => by
  obtain ⟨b, off, e, hb, hx⟩ := h (fun q => hn (by rw [q, List.take_nil]))
  refine ⟨b, off, e, hb, fun i x hi => hx i x ?_⟩
  have hl := (List.getElem?_eq_some_iff.1 hi).1
  rw [List.length_take] at hl
  rwa [List.getElem?_take_of_lt (by omega)] at hi
section
open Go.ChangeShapes Go.WideShapes Go.ChangeAt Go.RowKit Go.Deep Rm
variable {H : Type} {enc : TypeId × Value → H} {W : World} {base : Nat} {spare : Nat → Bool} {held : Bool}
end
end Go.Proofs.Ytoencnbpjjkjnaa

/- slices.SortFunc at dots by shelf.compareDots: the same dots, in order. -/
namespace Go.Proofs.Ytoencnbpjjkjnaa
open Go.RowKit Rm Go.Sort
set_option linter.unusedVariables false
set_option linter.unusedSimpArgs false
set_option maxHeartbeats 1000000 in
set_option maxRecDepth 100000 in
theorem scompare_any (x y : Nat × Nat) (w : World) :
    Calls Try.prog 82 #[.agg #[.int .i64 x.1, .int .i64 x.2], .agg #[.int .i64 y.1, .int .i64 y.2]] w fun e w' => e = .returned (.int .i64 (cmpD x y)) ∧ GrD w w' := by
  have H1 := Lib.hid (cmp_any (x.1 : Int) (y.1 : Int))
  have H2 := Lib.hid (cmp_any (x.2 : Int) (y.2 : Int))
  have H3 := Lib.hid (or_any (Lib.compareInt (x.1 : Int) y.1) (Lib.compareInt (x.2 : Int) y.2))
  have HD : Hid (cmpD x y = if Lib.compareInt (x.1 : Int) y.1 != 0 then Lib.compareInt (x.1 : Int) y.1 else Lib.compareInt (x.2 : Int) y.2) := rfl
  generalize Lib.compareInt (x.1 : Int) y.1 = c1 at *
  generalize Lib.compareInt (x.2 : Int) y.2 = c2 at *
  generalize cmpD x y = r at *
  obtain ⟨x1, x2⟩ := x
  obtain ⟨y1, y2⟩ := y
  go_enter Try.func82, Try.ntmps82
  go_wp2_with fail
  have T0 := (Two.new w x1 x2 24).alloc (.cells #[.int .i64 (y1 : Int), .int .i64 (y2 : Int)] 24)
  have T1 := Two.new (w.alloc (.cells #[.int .i64 (x1 : Int), .int .i64 (x2 : Int)] 24)) y1 y2 24
  have G0 := Lib.hid (((GrD.refl w).alloc (.cells #[.int .i64 (x1 : Int), .int .i64 (x2 : Int)] 24)).alloc (.cells #[.int .i64 (y1 : Int), .int .i64 (y2 : Int)] 24))
  rw [World.size_alloc] at T1
  generalize (w.alloc (.cells #[.int .i64 (x1 : Int), .int .i64 (x2 : Int)] 24)).alloc (.cells #[.int .i64 (y1 : Int), .int .i64 (y2 : Int)] 24) = w2 at *
  obtain ⟨t1, t2, t3⟩ := T0
  obtain ⟨u1, u2, u3⟩ := T1
  clear t1 u1
  go_still_tail 10, (by kernel_rfl)
  still_call (H1.out _)
  repeat still_step
  still_call (H2.out _)
  repeat still_step
  refine wpStill_nil ?_
  change wpList _ _ _ _ _ w2.drew
  have G1 := Lib.hid (G0.out.drew)
  clear t2 t3 u2 u3 G0 H1 H2
  generalize w2.drew = w3 at *
  have HC : Hid (∀ c, Calls Try.prog 88 #[.slice (some ⟨w3.heap.size, 0, none⟩) 2 c] (w3.alloc (.cells #[.int .i64 c1, .int .i64 c2] 3)) fun e w' => e = .returned (.int .i64 r) ∧ w' = w3.alloc (.cells #[.int .i64 c1, .int .i64 c2] 3)) :=
    fun c => by rw [HD.out]; exact H3.out _ c _ (by simp [go_sem]) (by simp [go_sem])
  go_wp2_with (go_at_call 88; refine (HC.out _).mono ?_; rintro e w' ⟨rfl, rfl⟩)
  go_ret
  exact ⟨rfl, G1.out.alloc _⟩
theorem enter_scompare (args : Array Value) (w : World) : (callFunc 82 args).run Try.prog w = .ok (.enter 82 args) w := enters_of Try.func82 (by kernel_rfl) rfl _ _
theorem scompare_lays (blk off size : Nat) (w : World) : CmpLays Try.prog 82 #[] encD 2 cmpD blk off size w :=
  fun m os dk _ x y => (scompare_any x y _).mono fun e w' ⟨h1, h2⟩ => ⟨h1, h2.grow⟩

set_option maxHeartbeats 1000000 in
set_option maxRecDepth 100000 in
/-- a list of dots that owns its row is sorted where it lies -/
theorem sort_ownS (l : List (Nat × Nat)) (v : Value) (w : World) (base : Nat) (hl : l.length ≤ 10000) (ho : w.ownsRow base 24 2 v l.length (flat (pairs l))) :
    Calls Try.prog 81 #[v, .func (.func 82) #[] #[]] w fun e w' => e = .returned (.tuple #[]) ∧
      ∃ l' : List (Nat × Nat), l'.Perm l ∧ l'.Pairwise (fun a b => ¬ ltD b a) ∧ w'.ownsRow base 24 2 v l'.length (flat (pairs l')) ∧ w.grownBy w' v.ownBlock := by
  obtain ⟨hxl, ⟨rfl, hn⟩ | ⟨g, cap, cur, rfl, hbg, hg, hnc, hcm, hcs, htake⟩⟩ := ho
  · obtain rfl : l = [] := List.eq_nil_of_length_eq_zero hn
    refine (AnyF.slices_SortFunc_none Try.sortDots none 0 _ w).mono ?_
    rintro e w' ⟨rfl, rfl⟩
    exact ⟨rfl, [], List.Perm.refl _, List.Pairwise.nil, World.ownsRow_nil _ _ _ _, ⟨rfl, rfl, rfl, Nat.le_refl _, fun _ _ _ => rfl⟩⟩
  · have hlt : g < w.heap.size := (Array.getElem?_eq_some_iff.1 hg).1
    have hfl : (flat (pairs l)).length = l.length * 2 := by rw [flat_len, pairs_len]
    have hH : HoldsK encD 2 w g 0 l.toArray := by
      unfold HoldsK
      rw [flatK_eq]
      intro j hj
      have hj' : j < (flat (pairs l)).length := by simpa using hj
      refine ⟨?_, by simp [World.frozen?, hg]⟩
      have h1 : (cur.toList.take (l.length * 2))[j]? = (flat (pairs l))[j]? := by rw [htake]
      rw [List.getElem?_take_of_lt (by omega)] at h1
      simp only [World.cell?, hg, Nat.zero_add]
      simp only [Option.isSome_none, Bool.false_eq_true, if_false]
      rw [← Array.getElem?_toList, h1]
      simp [hj']
    have hcon := AnyQ.slices_SortFunc Try.sortDots 2 Try.isAgg24 Try.sizeOf24 encD (fun _ => rfl) (fun x v hv => by simp [encD] at hv; rcases hv with rfl | rfl <;> rfl) cmpD swoD 82 #[] g 0 cap l.toArray w enter_scompare (scompare_lays g 0 _ w) hH hlt (by simp; omega)
    refine hcon.mono ?_
    rintro e w' ⟨rfl, d', n, os, hp, hs, rfl⟩
    obtain ⟨hsz, -, hperm⟩ := hp
    have hsz' : d'.toList.length = l.length := by simpa using hsz
    have hpl : d'.toList.Perm l := by
      have e1 : (d'.extract 0 l.toArray.size) = d' := by rw [← hsz]; simp
      have e2 : (l.toArray.extract 0 l.toArray.size) = l.toArray := by simp
      rw [e1, e2] at hperm
      simpa using hperm
    refine ⟨rfl, d'.toList, hpl, ?_, ?_, ?_⟩
    · rw [List.pairwise_iff_getElem]
      intro i j hi hj hij hlt
      have h1 := hs i j (Nat.zero_le _) hij (by rw [← hsz]; simpa using hj)
      rw [Bool.eq_false_iff, ne_eq, cmpD_lt] at h1
      apply h1
      rw [getElem!_pos d' j (by simpa using hj), getElem!_pos d' i (by simpa using hi)]
      simpa using hlt
    · have hfk : flatK encD 2 d' = (flat (pairs d'.toList)).toArray := by
        have := flatK_eq d'.toList
        simpa using this
      have hfl' : (flat (pairs d'.toList)).length = l.length * 2 := by rw [flat_len, pairs_len, hsz']
      refine ⟨by rw [flat_len, pairs_len], .inr ⟨g, cap, putCells id 0 (flatK encD 2 d') cur, by rw [hsz'], hbg, ?_, by omega, hcm, by simp [putCells, hcs], ?_⟩⟩
      · exact heap_put _ hg
      · rw [hfk, hsz', ← hfl']
        refine take_put cur _ ?_
        rw [hfl', hcs]
        exact Nat.mul_le_mul_right 2 hnc
    · exact grown_put _
end Go.Proofs.Ytoencnbpjjkjnaa

/- slices.Compact at dots, over a row that is owned: more of them. -/
set_option linter.unusedVariables false
set_option linter.unusedSimpArgs false
namespace Go.Proofs.Ytoencnbpjjkjnaa
open Go.RowKit Rm
set_option maxHeartbeats 4000000 in
set_option maxRecDepth 100000 in
theorem compact_rowS (l : List (Nat × Nat)) (g cap : Nat) (w : World) (hr : RowD 24 w g cap l) (hn : l.length ≤ 10000) :
    Calls Try.prog 83 #[.slice (some ⟨g, 0, none⟩) l.length cap] w fun e w' => e = .returned (.slice (some ⟨g, 0, none⟩) (ddT l l.length).length cap) ∧ RowD 24 w' g cap (ddT l l.length) ∧ w.grownBy w' (some g) := by
  have HR := Lib.hid hr
  have hnI : (l.length : Int) ≤ 10000 := by omega
  have hcap : l.length ≤ cap := hr.1
  by_cases h2 : l.length < 2
  · have HE : Hid (ddT l l.length = l) := by
      show _ = _
      rw [ddT_all (Nat.le_refl _) (fun j h1 h3 => by omega)]; simp
    have h2I : (l.length : Int) < 2 := by omega
    clear hr
    go_enter Try.func83, Try.ntmps83
    go_wp2
    go_ret
    rw [HE.out]
    exact ⟨rfl, HR.out, gb_refl _ _⟩
  · have h2I : ¬ (l.length : Int) < 2 := by omega
    clear hr
    go_enter Try.func83, Try.ntmps83
    go_wp2
    go_loopg [3] l.length (fun gh s3 wr => ∃ k : Nat, 1 ≤ k ∧ k ≤ l.length ∧ l.length - k ≤ gh ∧ s3 = .int .i64 (k : Int) ∧ (∃ q, wr = w.drewN q) ∧ ∀ j, j < k → 0 < j → l[j]? ≠ l[j - 1]?)
    case atStart => exact ⟨1, by omega, by omega, by omega, rfl, ⟨0, rfl⟩, fun j h1 h3 => by omega⟩
    case round =>
      obtain ⟨k, hk1, hk, hg, rfl, ⟨q, hwr⟩, hall⟩ := hrel
      have HA := Lib.hid hall
      have HW := Lib.hid hwr
      have HRr : Hid (RowD 24 wr g cap l) := by rw [hwr]; exact RowD.drewN HR.out q
      clear hall hwr
      by_cases hlt : k < l.length
      · obtain ⟨p, hkp⟩ : ∃ p, k = p + 1 := ⟨k - 1, by omega⟩
        obtain ⟨x, hx⟩ : ∃ x, l[p]? = some x := ⟨_, List.getElem?_eq_getElem (by omega)⟩
        obtain ⟨y, hy⟩ : ∃ y, l[k]? = some y := ⟨_, List.getElem?_eq_getElem (by omega)⟩
        obtain ⟨a0, a1, a2, a3⟩ := RowD.cell HRr.out hx
        obtain ⟨b0, b1, b2, b3⟩ := RowD.cell HRr.out hy
        have hltI : (k : Int) < (l.length : Int) := by omega
        have hsub : (k : Int) - 1 = (p : Int) := by omega
        have hpI : (p : Int) < (l.length : Int) := by omega
        have hwp : IntKind.i64.wrap (p : Int) = (p : Int) := IntWalk.i64_in _ (by omega)
        have HX := Lib.hid hx
        have HY := Lib.hid hy
        have HK := Lib.hid hkp
        obtain ⟨x1, x2⟩ := x
        obtain ⟨y1, y2⟩ := y
        simp only at a0 a1 b0 b1
        clear hx hy a2 a3 b2 b3 hkp
        by_cases hdup : (y1, y2) = (x1, x2)
        · obtain ⟨rfl, rfl⟩ := Prod.mk.inj hdup
          clear hdup
          have HS : Hid (∀ m, CmpAt l w (wr.drewN m) g cap k k 0 l) := by
            intro m
            have hks := HK.out
            have e1 : ddT l (k + 1) = ddT l k := ddT_same (i := k) HY.out ⟨by omega, by rw [show k - 1 = p by omega]; exact HX.out⟩
            have e2 : ddT l k = l.take k := ddT_all (by omega) HA.out
            refine ⟨by omega, by omega, rfl, ?_, ?_, fun i _ => rfl, RowD.drewN HRr.out m, ?_⟩
            · show k = (ddT l (k + 1)).length
              rw [e1, e2]; simp; omega
            · show l.take k = ddT l (k + 1)
              rw [e1, e2]
            · rw [HW.out]; exact gb_trans (gb_drewN w g q) (gb_drewN _ g m)
          go_wp2_with fail
          go_quiet (fail)
          have HI := Lib.hid (HS.out nq)
          generalize (wr.drewN nq) = w1 at *
          clear HS a0 a1 b0 b1
          have hkc : k ≤ cap := by omega
          go_wp2
          generalize hn2 : l.length - k = n2 at *
          have HN2 := Lib.hid hn2
          clear hn2
          go_loopg [3, 5] l.length (fun gh s3 s5 wr => ∃ (i j j' : Nat) (c : List (Nat × Nat)), s3 = .int .i64 (i : Int) ∧ s5 = .int .i64 (j : Int) ∧ j = j' + 1 ∧ l.length - (k + j) ≤ gh ∧ CmpAt l w wr g cap k i j' c)
          case atStart => exact ⟨k, 1, 0, l, rfl, rfl, rfl, by omega, HI.out⟩
          case round =>
            obtain ⟨i, j, j', c, rfl, rfl, hjj, hg2, hat⟩ := hrel
            have HT := Lib.hid hat
            have HJ := Lib.hid hjj
            have hij : i ≤ k + j' := hat.2.1
            have hcl : c.length = l.length := hat.2.2.1
            have hle : k + j ≤ l.length := by have := hat.1; omega
            clear hat hjj
            by_cases hjl : k + j < l.length
            · obtain ⟨x, hx⟩ : ∃ x, l[k + j]? = some x := ⟨_, List.getElem?_eq_getElem (by omega)⟩
              obtain ⟨y, hy⟩ : ∃ y, l[k + j']? = some y := ⟨_, List.getElem?_eq_getElem (by have := HJ.out; omega)⟩
              obtain ⟨z, hz⟩ : ∃ z, c[i]? = some z := ⟨_, List.getElem?_eq_getElem (by have := HJ.out; omega)⟩
              have hRow := HT.out.2.2.2.2.2.2.1
              have hhi := HT.out.2.2.2.2.2.1
              have hx' := (hhi (k + j) (by have := HJ.out; omega)).trans hx
              have hy' := (hhi (k + j') (by omega)).trans hy
              obtain ⟨a0, a1, a2, a3⟩ := RowD.cell hRow hx'
              obtain ⟨b0, b1, b2, b3⟩ := RowD.cell hRow hy'
              obtain ⟨d0, d1, d2, d3⟩ := RowD.cell hRow hz
              have o1 : (k + j) * 2 = k * 2 + j * 2 := by omega
              have o2 : (k + j') * 2 = k * 2 + j' * 2 := by omega
              rw [o1] at a0 a1
              rw [o2] at b0 b1
              have HX2 := Lib.hid hx
              have HY2 := Lib.hid hy
              have hjI : (j : Int) < (n2 : Int) := by have := HN2.out; omega
              have hsub : (j : Int) - 1 = (j' : Int) := by have := HJ.out; omega
              have hj'I : (j' : Int) < (n2 : Int) := by omega
              have hiI : (i : Int) < (l.length : Int) := by have := HJ.out; omega
              have hjb : (j : Int) ≤ 10000 := by omega
              have hwj : IntKind.i64.wrap (j' : Int) = (j' : Int) := IntWalk.i64_in _ (by omega)
              have HRow := Lib.hid hRow
              have HIC : Hid (i < c.length) := by show _ < _; have := HJ.out; omega
              obtain ⟨x1, x2⟩ := x
              obtain ⟨y1, y2⟩ := y
              obtain ⟨z1, z2⟩ := z
              simp only at a0 a1 b0 b1 d0 d1
              clear hx hy hz hx' hy' hRow hhi a2 a3 b2 b3 o1 o2
              by_cases hsame : (x1, x2) = (y1, y2)
              · obtain ⟨rfl, rfl⟩ := Prod.mk.inj hsame
                clear hsame
                have HN : Hid (∀ m, CmpAt l w (wr.drewN m) g cap k i (j' + 1) c) := fun m => CmpAt.same HT.out (by have := HJ.out; omega) (by rw [show k + j' + 1 = k + j by have := HJ.out; omega, HX2.out, HY2.out]) (RowD.drewN HRow.out m) (gb_drewN _ g m)
                go_wp2_with fail
                go_quiet (fail)
                go_wp2
                go_roundg (l.length - (k + (j + 1)))
                case measure => omega
                case rel => exact ⟨i, j + 1, j' + 1, c, rfl, by go_num, by rw [HJ.out], Nat.le_refl _, HN.out _⟩
              · have HN : Hid (∀ m, CmpAt l w (((wr.drewN m).setCell ⟨g, i * 2, none⟩ (.int .i64 (x1 : Int))).setCell ⟨g, i * 2 + 1, none⟩ (.int .i64 (x2 : Int))) g cap k (i + 1) (j' + 1) (c.set i (x1, x2))) := fun m =>
                  CmpAt.more (d := (x1, x2)) HT.out (by rw [show k + j' + 1 = k + j by have := HJ.out; omega, HX2.out]) (by rw [HY2.out]; intro e; exact hsame (Option.some.inj e).symm) (RowD.put (RowD.drewN HRow.out m) (x1, x2) HIC.out) (gb_trans (gb_drewN _ g m) (gb_trans (gset _ g _ _) (gset _ g _ _)))
                have hne : ¬ (x1 = y1 ∧ x2 = y2) := fun e => hsame (by rw [e.1, e.2])
                clear hsame
                have hcase : (¬ x1 = y1) ∨ (x1 = y1 ∧ ¬ x2 = y2) := by omega
                rcases hcase with h1 | ⟨rfl, h1⟩
                · clear hne
                  go_wp2_with fail
                  go_quiet (fail)
                  go_wp2
                  go_roundg (l.length - (k + (j + 1)))
                  case measure => omega
                  case rel => exact ⟨i + 1, j + 1, j' + 1, _, by go_num, by go_num, by rw [HJ.out], Nat.le_refl _, HN.out _⟩
                · clear hne
                  have h1I : ¬ (x2 : Int) = (y2 : Int) := by omega
                  go_wp2_with fail
                  go_quiet (fail)
                  go_wp2
                  go_roundg (l.length - (k + (j + 1)))
                  case measure => omega
                  case rel => exact ⟨i + 1, j + 1, j' + 1, _, by go_num, by go_num, by rw [HJ.out], Nat.le_refl _, HN.out _⟩
            · have hend : k + j = l.length := by omega
              have hjI : ¬ (j : Int) < (n2 : Int) := by have := HN2.out; omega
              have hil : i < l.length := by have := HJ.out; omega
              have hRow := HT.out.2.2.2.2.2.2.1
              have hblk := hRow.2
              have hclr : ∀ ty, (Builtin.clear_ #[28] ty #[.slice (some ⟨g, i * 2, none⟩) (l.length - i) (cap - i)]).run Try.prog wr = .ok (.tuple #[]) (wr.setCells g (i * 2) (zsD (l.length - i))) := fun ty => by
                obtain ⟨cur, hgc, hsz, htk⟩ := hblk
                exact run_clear_dots wr ty g (i * 2) _ _ (by omega) (fun m hm => by simp only [World.cell?, hgc]; simp; omega) (fun m hm => by simp [World.frozen?, hgc])
              have HF : Hid ((ddT l l.length).length = i ∧ RowD 24 (wr.setCells g (i * 2) (zsD (l.length - i))) g cap (ddT l l.length) ∧ w.grownBy (wr.setCells g (i * 2) (zsD (l.length - i))) (some g)) := by
                obtain ⟨q1, q2, q3, q4, q5, q6, q7, q8⟩ := HT.out
                have e : k + j' + 1 = l.length := by have := HJ.out; omega
                rw [e] at q4 q5
                refine ⟨q4.symm, ?_, gb_trans q8 (setCells_grown g _ _ _)⟩
                rw [← q5]
                exact RowD.shrink q7 (by omega)
              have hiI : (i : Int) < (l.length : Int) := by omega
              clear hRow hblk
              go_wp2
              go_ret
              obtain ⟨f1, f2, f3⟩ := HF.out
              exact ⟨by rw [f1]; rfl, f2, f3⟩
        · have HN : Hid (∀ j, j < k + 1 → 0 < j → l[j]? ≠ l[j - 1]?) := fun j h1 h3 => by
            by_cases e : j = k
            · subst e
              rw [show j - 1 = p by have := HK.out; omega, HX.out, HY.out]
              intro e; exact hdup (Option.some.inj e)
            · exact HA.out j (by omega) h3
          have hcase : (¬ y1 = x1) ∨ (y1 = x1 ∧ ¬ y2 = x2) := by
            by_cases e : y1 = x1
            · exact .inr ⟨e, fun e' => hdup (by rw [e, e'])⟩
            · exact .inl e
          clear hdup
          rcases hcase with h1 | ⟨rfl, h1⟩
          · go_wp2_with fail
            go_quiet (fail)
            go_wp2
            go_roundg (l.length - (k + 1))
            case measure => omega
            case rel => exact ⟨k + 1, by omega, by omega, Nat.le_refl _, by go_num, ⟨q + nq, by rw [HW.out]; exact (drewN_add ..)⟩, HN.out⟩
          · have h1I : ¬ (y2 : Int) = (x2 : Int) := by omega
            go_wp2_with fail
            go_quiet (fail)
            go_wp2
            go_roundg (l.length - (k + 1))
            case measure => omega
            case rel => exact ⟨k + 1, by omega, by omega, Nat.le_refl _, by go_num, ⟨q + nq, by rw [HW.out]; exact (drewN_add ..)⟩, HN.out⟩
      · obtain rfl : k = l.length := by omega
        have HE : Hid (ddT l l.length = l) := by
          show _ = _
          rw [ddT_all (Nat.le_refl _) HA.out]; simp
        go_wp2
        go_ret
        rw [HE.out]
        exact ⟨rfl, HRr.out, by rw [HW.out]; exact gb_drewN w g q⟩
/-- over a row that is owned -/
theorem compact_ownS (l : List (Nat × Nat)) (v : Value) (w : World) (base : Nat) (hl : l.length ≤ 10000) (ho : w.ownsRow base 24 2 v l.length (flat (pairs l))) :
    Calls Try.prog 83 #[v] w fun e w' => ∃ u, e = .returned u ∧ u.ownBlock = v.ownBlock ∧ w'.ownsRow base 24 2 u (ddT l l.length).length (flat (pairs (ddT l l.length))) ∧ w.grownBy w' v.ownBlock := by
  obtain ⟨hxl, ⟨rfl, hn⟩ | ⟨g, cap, cur, rfl, hbg, hg, hnc, hcm, hcs, htake⟩⟩ := ho
  · obtain rfl : l = [] := List.eq_nil_of_length_eq_zero hn
    go_enter Try.func83, Try.ntmps83
    go_wp2
    go_ret
    exact ⟨_, rfl, rfl, World.ownsRow_nil _ _ _ _, ⟨rfl, rfl, rfl, Nat.le_refl _, fun _ _ _ => rfl⟩⟩
  · refine (compact_rowS l g cap w ⟨hnc, cur, hg, hcs, htake⟩ hl).mono ?_
    rintro e w' ⟨rfl, ⟨h1, cur', h2, h3, h4⟩, h5⟩
    exact ⟨_, rfl, rfl, ⟨by rw [flat_len, pairs_len], .inr ⟨g, cap, cur', rfl, hbg, h2, h1, hcm, h3, h4⟩⟩, h5⟩
end Go.Proofs.Ytoencnbpjjkjnaa

/- Dots added in order: the dots behind the vector only grow. -/
set_option linter.unusedVariables false
set_option linter.unusedSimpArgs false
namespace Rm
open Go Go.RowKit
theorem runTo_mono {D E : DS} {s : Nat} (h : ∀ c, D s c = true → E s c = true) : ∀ n, runTo D s n ≤ runTo E s n
  | 0 => Nat.le_refl _
  | n + 1 => by
    have ih := runTo_mono h n
    have h1 := runTo_le E s n
    unfold runTo
    split
    · rename_i q
      rw [if_pos ⟨by omega, h _ q.2⟩]
      exact Nat.le_refl _
    · split
      · have := runTo_le D s n; omega
      · exact ih
theorem run_mono {D E : DS} {s : Nat} (h : ∀ c, D s c = true → E s c = true) : run D s ≤ run E s := runTo_mono h 1000
theorem run_all {D : DS} {s c : Nat} (h1 : 1 ≤ c) (h2 : c ≤ run D s) : D s c = true := runTo_all D s 1000 c h1 h2
theorem run_gap {D : DS} {s : Nat} (h : run D s < 1000) : D s (run D s + 1) = false := runTo_gap D s 1000 h
/-- the run ends at its first gap -/
theorem run_lt {D : DS} {s c : Nat} (h1 : 1 ≤ c) (h : D s c = false) : run D s < c := by
  rcases Nat.lt_or_ge (run D s) c with q | q
  · exact q
  · rw [run_all h1 q] at h; cases h
theorem filter_le {α : Type} {p q : α → Bool} (h : ∀ x, p x = true → q x = true) : ∀ l : List α, (l.filter p).length ≤ (l.filter q).length
  | [] => Nat.le_refl _
  | a :: l => by
    have ih := filter_le h l
    rw [List.filter_cons, List.filter_cons]
    by_cases hp : p a = true
    · rw [if_pos hp, if_pos (h a hp)]; simpa using ih
    · rw [if_neg hp]
      split
      · simp only [List.length_cons]; omega
      · exact ih
theorem flatMap_le {α β : Type} {f g : α → List β} : ∀ l : List α, (∀ x ∈ l, (f x).length ≤ (g x).length) → (l.flatMap f).length ≤ (l.flatMap g).length
  | [], _ => Nat.le_refl _
  | a :: l, h => by
    rw [List.flatMap_cons, List.flatMap_cons, List.length_append, List.length_append]
    have := h a (List.mem_cons_self ..)
    have := flatMap_le l fun x hx => h x (List.mem_cons_of_mem _ hx)
    omega
theorem mem_formM (D : DS) (d : Nat × Nat) : d ∈ formM D ↔ d.1 < 5 ∧ d.2 ≤ 1000 ∧ run D d.1 + 2 ≤ d.2 ∧ D d.1 d.2 = true := by
  unfold formM
  rw [List.mem_flatMap]
  constructor
  · rintro ⟨s, hs, h⟩
    obtain ⟨h1, h2, h3, h4⟩ := (mem_restD D s d).1 h
    rw [List.mem_range] at hs
    subst h1
    exact ⟨hs, h2, h3, h4⟩
  · rintro ⟨h1, h2, h3, h4⟩
    exact ⟨d.1, List.mem_range.2 h1, (mem_restD D d.1 d).2 ⟨rfl, h2, h3, h4⟩⟩
/-- a dot is added that is greater than all behind the vector: none of them leaves -/
theorem formM_add {D : DS} {a b : Nat} (hd : inR a b) (h : ∀ x ∈ formM D, ltD x (a, b)) : (formM D).length ≤ (formM (addD D a b)).length := by
  refine flatMap_le _ fun s hs => ?_
  have hs5 := List.mem_range.1 hs
  unfold restD
  rw [List.length_map, List.length_map]
  by_cases hsa : s = a
  · subst hsa
    by_cases hb : b = run D s + 1
    · -- nothing lies behind the vector there
      have h0 : ((List.range 1001).filter fun c => decide (run D s + 2 ≤ c) && D s c) = [] := by
        rw [List.filter_eq_nil_iff]
        intro c hc q
        rw [Bool.and_eq_true, decide_eq_true_eq] at q
        rw [List.mem_range] at hc
        have := h (s, c) ((mem_formM D (s, c)).2 ⟨hs5, by simp only; omega, q.1, q.2⟩)
        unfold ltD at this
        simp only at this
        omega
      rw [h0]
      exact Nat.zero_le _
    · have hr : run (addD D s b) s = run D s := by
        apply Nat.le_antisymm
        · rcases Nat.lt_or_ge (run D s) 1000 with q | q
          · have g := run_gap q
            have g2 : addD D s b s (run D s + 1) = false := by
              unfold addD
              rw [g, Bool.false_or, decide_eq_false_iff_not]
              omega
            have := run_lt (by omega) g2
            omega
          · have := run_le (addD D s b) s
            have := run_le D s
            omega
        · exact run_mono fun c hc => by unfold addD; rw [hc]; rfl
      refine filter_le (fun c hc => ?_) _
      rw [Bool.and_eq_true] at hc ⊢
      rw [hr]
      exact ⟨hc.1, by unfold addD; rw [hc.2]; rfl⟩
  · have he : ∀ c, addD D a b s c = D s c := fun c => by
      unfold addD
      rw [decide_eq_false (fun q => hsa q.1), Bool.or_false]
    have hr : run (addD D a b) s = run D s := Nat.le_antisymm (run_mono fun c hc => by rw [← he c]; exact hc) (run_mono fun c hc => by rw [he c]; exact hc)
    refine filter_le (fun c hc => ?_) _
    rw [Bool.and_eq_true] at hc ⊢
    rw [hr, he c]
    exact hc
/-- a set with dots more -/
def addS (D : DS) (L : List (Nat × Nat)) : DS := fun s c => D s c || decide ((s, c) ∈ L)
theorem addS_nil (D : DS) : addS D [] = D := by
  funext s c
  simp [addS]
theorem addS_snoc (D : DS) (L : List (Nat × Nat)) (a b : Nat) : addD (addS D L) a b = addS D (L ++ [(a, b)]) := by
  funext s c
  unfold addD addS
  rw [Bool.eq_iff_iff]
  simp only [Bool.or_eq_true, decide_eq_true_eq, List.mem_append, List.mem_singleton, Prod.mk.injEq, or_assoc]
theorem addS_congr (D : DS) {L L' : List (Nat × Nat)} (h : ∀ x, x ∈ L ↔ x ∈ L') : addS D L = addS D L' := by
  funext s c
  unfold addS
  rw [Bool.eq_iff_iff]
  simp only [Bool.or_eq_true, decide_eq_true_eq, h]
/-- a set that its vector holds alone -/
def Pure (D : DS) : Prop := ∀ s c, inR s c → D s c = true → c ≤ run D s
theorem addS_lt {D : DS} {L : List (Nat × Nat)} {i : Nat} {d : Nat × Nat} (hD : Pure D) (hL : L.Pairwise ltD) (hd : L[i]? = some d) : ∀ x ∈ formM (addS D (L.take i)), ltD x d := fun x hx => by
  obtain ⟨h1, h2, h3, h4⟩ := (mem_formM _ x).1 hx
  unfold addS at h4
  rw [Bool.or_eq_true, decide_eq_true_eq] at h4
  rcases h4 with h4 | h4
  · have h5 := hD x.1 x.2 ⟨h1, by omega, h2⟩ h4
    have h6 : run D x.1 ≤ run (addS D (L.take i)) x.1 := run_mono fun c hc => by unfold addS; rw [hc]; rfl
    omega
  · obtain ⟨j, hj⟩ := List.getElem?_of_mem h4
    have hl := (List.getElem?_eq_some_iff.1 hj).1
    rw [List.length_take] at hl
    rw [List.getElem?_take_of_lt (by omega)] at hj
    obtain ⟨p1, e1⟩ := List.getElem?_eq_some_iff.1 hj
    obtain ⟨p2, e2⟩ := List.getElem?_eq_some_iff.1 hd
    have := List.pairwise_iff_getElem.1 hL j i p1 p2 (by omega)
    rw [e1, e2] at this
    exact this
theorem take_snocD {L : List (Nat × Nat)} {i : Nat} {d : Nat × Nat} (hd : L[i]? = some d) : L.take (i + 1) = L.take i ++ [d] := by
  rw [List.take_add_one, hd]
  rfl
theorem addS_step {D : DS} {L : List (Nat × Nat)} {i : Nat} {d : Nat × Nat} (hd : L[i]? = some d) : addD (addS D (L.take i)) d.1 d.2 = addS D (L.take (i + 1)) := by
  rw [addS_snoc, take_snocD hd]
theorem addS_le {D : DS} {L : List (Nat × Nat)} (hD : Pure D) (hL : L.Pairwise ltD) (hR : ∀ d ∈ L, inR d.1 d.2) : ∀ n i, i + n = L.length → (formM (addS D (L.take i))).length ≤ (formM (addS D L)).length
  | 0, i, h => by rw [List.take_of_length_le (by omega)]; exact Nat.le_refl _
  | n + 1, i, h => by
    obtain ⟨d, hd⟩ : ∃ d, L[i]? = some d := ⟨_, List.getElem?_eq_getElem (by omega)⟩
    have h1 := formM_add (hR d (List.mem_of_getElem? hd)) (addS_lt hD hL hd)
    rw [addS_step hd] at h1
    exact Nat.le_trans h1 (addS_le hD hL hR n (i + 1) (by omega))
theorem Pure.formM {D : DS} (h : Pure D) : formM D = [] := by
  apply List.eq_nil_iff_forall_not_mem.2
  intro x hx
  obtain ⟨h1, h2, h3, h4⟩ := (mem_formM D x).1 hx
  have := h x.1 x.2 ⟨h1, by omega, h2⟩ h4
  omega
/-- whoever holds a dot holds those ahead of it -/
theorem pure_of {D : DS} (h : ∀ s c, inR s (c + 1) → 1 ≤ c → D s (c + 1) = true → D s c = true) : Pure D := fun s c hi hc => by
  rcases Nat.lt_or_ge (run D s) c with q | q
  · exfalso
    have hg := run_gap (show run D s < 1000 by have := hi.2.2; omega)
    have key : ∀ k, k ≤ c - (run D s + 1) → D s (c - k) = true := by
      intro k
      induction k with
      | zero => intro _; exact hc
      | succ k ih =>
        intro hk
        have h1 := ih (by omega)
        have h2 := hi.1
        have h3 := hi.2.2
        refine h s (c - (k + 1)) ⟨h2, by omega, by omega⟩ (by omega) ?_
        rw [show c - (k + 1) + 1 = c - k by omega]
        exact h1
    have := key (c - (run D s + 1)) (Nat.le_refl _)
    rw [show c - (c - (run D s + 1)) = run D s + 1 by omega, hg] at this
    cases this
  · exact q
theorem Pure.down {D : DS} (h : Pure D) {s c : Nat} (hi : inR s (c + 1)) (hc : 1 ≤ c) (hd : D s (c + 1) = true) : D s c = true := run_all hc (by have := h s (c + 1) hi hd; omega)
theorem Pure.or {D E : DS} (h : Pure D) (k : Pure E) : Pure (orD D E) := pure_of fun s c hi hc hd => by
  unfold orD at hd ⊢
  rw [Bool.or_eq_true] at hd ⊢
  rcases hd with hd | hd
  · exact .inl (h.down hi hc hd)
  · exact .inr (k.down hi hc hd)
theorem pure_vec (v : List Nat) : Pure (memB v []) := pure_of fun s c hi hc hd => by
  rw [memB_iff] at hd ⊢
  rcases hd with hd | hd
  · exact .inl ⟨hc, by omega⟩
  · cases hd
end Rm
namespace Rm
open Go Go.RowKit Gx
theorem encD_ok : EncOk encD 2 := ⟨fun x => rfl, fun x u hu => by
  simp [encD] at hu
  rcases hu with rfl | rfl <;> rfl⟩
theorem flat_encD (l : List (Nat × Nat)) : flat (pairs l) = flatE encD l := by
  unfold flat pairs flatE
  rw [List.flatMap_map]
  rfl
theorem ddT_memL {L L1 : List (Nat × Nat)} (h : L1.Perm L) (x : Nat × Nat) : x ∈ ddT L1 L1.length ↔ x ∈ L := by
  rw [ddT_mem (Nat.le_refl _), ← h.mem_iff]
  constructor
  · rintro ⟨j, -, hj⟩; exact List.mem_of_getElem? hj
  · intro hx
    obtain ⟨j, hj⟩ := List.getElem?_of_mem hx
    exact ⟨j, (List.getElem?_eq_some_iff.1 hj).1, hj⟩
end Rm
namespace Go.Proofs.Ytoencnbpjjkjnaa
open Go.RowKit Rm Gx
/-- a value that says 'no dots behind the vector' in any world -/
def NoM (mv : Value) : Prop := ∀ w : World, Rd2 w mv [] ∧ RdC 2 w mv 0 []
theorem noM_of {w : World} {vv mv : Value} {V : List Int} (h : KnR w (.agg #[vv, mv]) V []) : NoM mv := fun w' => by
  obtain ⟨a, b, e, -, h2, h3⟩ := h
  have e2 : mv = b := by
    injection e with e
    have e := congrArg Array.toList e
    simpa using (List.cons.inj (List.cons.inj e).2).1
  obtain rfl := e2.symm
  obtain ⟨ad, c, rfl, hc, -⟩ := h2
  refine ⟨⟨ad, c, rfl, hc, fun q => absurd rfl q⟩, rfl, (fun u hu => by cases hu), ?_⟩
  obtain ⟨-, -, h4 | ⟨ad', c', e', hc', -⟩⟩ := h3
  · exact .inl h4
  · exact .inr ⟨ad', c', e', hc', fun q => absurd rfl q, fun j u hj => by simp at hj⟩
theorem noM_nil : NoM (.slice none 0 0) := fun w' => ⟨⟨none, 0, rfl, Nat.le_refl _, fun q => absurd rfl q⟩, rfl, (fun u hu => by cases hu), .inl ⟨rfl, rfl⟩⟩
/-- a set that its own vector holds alone -/
theorem knR_vecM {w : World} {base : Nat} {vv mv : Value} {v : List Nat} (h : w.ownsRow base 3 1 vv v.length (flatI v)) (hm : NoM mv) : KnR w (.agg #[vv, mv]) (ints v) [] := ⟨vv, mv, rfl, R1.own h, (hm w).1, (hm w).2⟩
end Go.Proofs.Ytoencnbpjjkjnaa
namespace Go.Proofs.Ytoencnbpjjkjnaa
open Go.RowKit Rm Gx
/-- a set of dots whose vector it owns, and its dots where there are some -/
def KnW (base : Nat) (w : World) (k : Value) (v : List Nat) (m : List (Nat × Nat)) : Prop :=
  ∃ vv mv, k = .agg #[vv, mv] ∧ w.ownsRow base 3 1 vv v.length (flatI v) ∧ (w.ownsRow base 24 2 mv m.length (flat (pairs m)) ∨ (m = [] ∧ NoM mv))
theorem KnW.of {base : Nat} {w : World} {k : Value} {v : List Nat} {m : List (Nat × Nat)} (h : KnO base w k v m) : KnW base w k v m := by
  obtain ⟨vv, mv, e, h1, h2⟩ := h
  exact ⟨vv, mv, e, h1, .inl h2⟩
theorem KnW.rd {base : Nat} {w : World} {k : Value} {v : List Nat} {m : List (Nat × Nat)} (h : KnW base w k v m) : KnR w k (ints v) (pairs m) := by
  obtain ⟨vv, mv, rfl, h1, h2 | ⟨rfl, h2⟩⟩ := h
  · exact KnO.rd ⟨vv, mv, rfl, h1, h2⟩
  · exact knR_vecM h1 h2
theorem KnW.gr {base : Nat} {w w' : World} {k : Value} {v : List Nat} {m : List (Nat × Nat)} (h : KnW base w k v m) (g : Gr w w') : KnW base w' k v m := by
  obtain ⟨vv, mv, e, h1, h2 | h2⟩ := h
  · exact ⟨vv, mv, e, kown_gr h1 g, .inl (kown_gr h2 g)⟩
  · exact ⟨vv, mv, e, kown_gr h1 g, .inr h2⟩
theorem KnW.tks {base : Nat} {w w' : World} {k : Value} {v : List Nat} {m : List (Nat × Nat)} (h : KnW base w k v m) (q : TkS w w') : KnW base w' k v m := by
  obtain ⟨vv, mv, e, h1, h2 | h2⟩ := h
  · exact ⟨vv, mv, e, ow_tks h1 q (by decide), .inl (ow_tks h2 q (by decide))⟩
  · exact ⟨vv, mv, e, ow_tks h1 q (by decide), .inr h2⟩
theorem KnW.vec {base : Nat} {w : World} {vv mv : Value} {v : List Nat} (h : w.ownsRow base 3 1 vv v.length (flatI v)) (hm : NoM mv) : KnW base w (.agg #[vv, mv]) v [] := ⟨vv, mv, rfl, h, .inr ⟨rfl, hm⟩⟩
/-- Add, over a set in its form -/
theorem add_c (k : Value) (E : DS) (d : Nat × Nat) (base : Nat) (w : World) (hb : base ≤ w.heap.size) (hk : KnR w k (ints (formV E)) (pairs (formM E))) (hl : (formM E).length ≤ 60) (hd : inR d.1 d.2) :
    Calls Try.prog 84 #[k, .agg #[.int .i64 (d.1 : Int), .int .i64 (d.2 : Int)]] w fun e w' => ∃ va n vc ma m mc, e = .returned (.tuple #[.agg #[.slice va n vc, .slice ma m mc], .int .i64 (frE (addD E d.1 d.2))]) ∧ KnW base w' (.agg #[.slice va n vc, .slice ma m mc]) (frV (addD E d.1 d.2)) (frM (addD E d.1 d.2)) ∧ Gr w w' := by
  refine (add_ok k (formV E) (formM E) d.1 d.2 w hk (form_ok E) hl hd).mono ?_
  rintro e w' ⟨h, g⟩
  have he : EqD (addD (memB (formV E) (formM E)) d.1 d.2) (addD E d.1 d.2) := fun s c i => by
    unfold addD
    rw [form_mem E s c i]
  obtain ⟨k2, rfl, h2⟩ := (h.congr he).one
  have h3 := KnW.of (h2.less hb)
  obtain ⟨vv, mv, rfl, h4, h5⟩ := h2
  obtain ⟨a, c, rfl, -⟩ := ow_form h4
  obtain ⟨a', c', rfl, -⟩ := ow_form h5
  exact ⟨_, _, _, _, _, _, rfl, h3, g⟩
theorem frE_zero {D : DS} (h : frE D = 0) : (formM D).length ≤ 60 := by
  unfold frE at h
  split at h
  · assumption
  · cases h
theorem fr_small {D : DS} (h : frE D = 0) : frV D = formV D ∧ frM D = formM D := by
  have q := frE_zero h
  unfold frV frM
  rw [if_pos q, if_pos q]
  exact ⟨rfl, rfl⟩
theorem fr_of {D : DS} (h : (formM D).length ≤ 60) : frE D = 0 ∧ frV D = formV D ∧ frM D = formM D := by
  unfold frE frV frM
  rw [if_pos h, if_pos h, if_pos h]
  exact ⟨rfl, rfl, rfl⟩
theorem fr_over {D E : DS} (h : ¬ frE D = 0) (hl : (formM D).length ≤ (formM E).length) : frE D = 2 ∧ frE E = 2 ∧ frV E = [] ∧ frM E = [] := by
  have h1 : ¬ (formM D).length ≤ 60 := fun q => h (fr_of q).1
  have h2 : ¬ (formM E).length ≤ 60 := by omega
  unfold frE frV frM
  rw [if_neg h1, if_neg h2, if_neg h2, if_neg h2]
  exact ⟨rfl, rfl, rfl, rfl⟩
end Go.Proofs.Ytoencnbpjjkjnaa

/- shelf.addAll. -/
set_option linter.unusedVariables false
set_option linter.unusedSimpArgs false
namespace Go.Proofs.Ytoencnbpjjkjnaa
open Go.RowKit Rm Gx
set_option maxHeartbeats 8000000 in
set_option maxRecDepth 100000 in
theorem addAll_any (D : DS) (L : List (Nat × Nat)) (ka kc ra : Option Addr) (kb kd rc base : Nat) (hD : Pure D) (hR : ∀ d ∈ L, inR d.1 d.2) (hl : L.length ≤ 10000) (hN : NoM (.slice kc 0 kd)) (w0 w : World) (hG : Gr w0 w) (hB : w0.heap.size ≤ base) (hz : base ≤ w.heap.size) (ho : w.ownsRow base 24 2 (.slice ra L.length rc) L.length (flat (pairs L))) (hv : w.ownsRow base 3 1 (.slice ka (formV D).length kb) (formV D).length (flatI (formV D))) :
    Calls Try.prog 44 #[.agg #[.slice ka ((formV D).length) kb, .slice kc 0 kd], .slice ra L.length rc] w fun e w' => ∃ k, e = .returned (.tuple #[k, .int .i64 (frE (addS D L))]) ∧ KnW base w' k (frV (addS D L)) (frM (addS D L)) ∧ w.grownBy w' (Value.ownBlock (.slice ra L.length rc)) := by
  refine enter (N := 30) Try.func44 rfl rfl rfl (fun a0 ok0 h0 => ?_)
  have e0_0 : a0.eval (.tmp 0) = .agg #[.slice ka ((formV D).length) kb, .slice kc 0 kd] := h0 0 _ rfl
  have e0_1 : a0.eval (.tmp 1) = .slice ra L.length rc := h0 1 _ rfl
  clear h0
  refine wp_seq_k (fun K1 hK1 => ?_)
  refine wp_region_lit ?_
  refine sal (cs := #[.slice ka ((formV D).length) kb, .slice kc 0 kd]) ok0 rfl (wn _ rfl) rfl (o_box e0_0) (fun an2 w4 b3 W5 n2 => ?_)
  have l6 : w0.heap.size ≤ b3 := by rw [W5.eq]; exact hG.size
  have l7 : ∀ k, Value.ownBlock (.slice ra L.length rc) = some k → k < b3 := fun k e => by rw [W5.eq]; exact ow_in ho k e
  have l8 : ∀ k, Value.ownBlock (.slice ka ((formV D).length) kb) = some k → k < b3 := fun k e => by rw [W5.eq]; exact ow_in hv k e
  have l9 : w.heap.size ≤ b3 := by rw [W5.eq]; exact (gb_self : w.grownBy w (Value.ownBlock (.slice ra L.length rc))).size
  have G10 := hG.trans W5.gr
  have z11 := Nat.le_trans hz W5.gr.size
  have O12 := ow_gr ho W5.gr
  have O13 := ow_gr hv W5.gr
  have F14 := gb_gr (gb_self : w.grownBy w (Value.ownBlock (.slice ra L.length rc))) W5.gr
  refine sal (cs := #[.slice none 0 0, .slice none 0 0]) n2.ok rfl (wn _ rfl) rfl (o_al (z := .agg #[.slice none 0 0, .slice none 0 0]) (by kernel_rfl)) (fun an15 w17 b16 W18 n15 => ?_)
  have l19 : b3 < b16 := by rw [W18.eq]; exact W5.bk.lt
  have l20 : w0.heap.size ≤ b16 := by rw [W18.eq]; exact G10.size
  have l21 : ∀ k, Value.ownBlock (.slice ra L.length rc) = some k → k < b16 := fun k e => by rw [W18.eq]; exact ow_in O12 k e
  have l22 : ∀ k, Value.ownBlock (.slice ka ((formV D).length) kb) = some k → k < b16 := fun k e => by rw [W18.eq]; exact ow_in O13 k e
  have l23 : w.heap.size ≤ b16 := by rw [W18.eq]; exact F14.size
  have G24 := G10.trans W18.gr
  have B25 := W5.bk.gr W18.gr
  have z26 := Nat.le_trans z11 W18.gr.size
  have O27 := ow_gr O12 W18.gr
  have O28 := ow_gr O13 W18.gr
  have F29 := gb_gr F14 W18.gr
  refine sv n15.ok rfl (wn _ rfl) rfl (o_as ev_const) (fun an30 n30 => ?_)
  refine wpList_nil ?_
  refine th_n (hK1 _ _ ?_)
  refine wp_seq_k (fun K31 hK31 => ?_)
  refine wp_region_lit ?_
  have e32 := n30.ne rfl (n15.ne rfl (n2.ne rfl e0_1))
  refine sv n30.ok rfl (wn _ rfl) rfl (o_mv e32) (fun an33 n33 => ?_)
  refine sc n33.ok rfl (wn _ rfl) rfl (o_f2 Try.func81 rfl rfl rfl n33.at_ ev_func) (sort_ownS L _ w17 base hl O27) ?_
  rintro _ w35 ⟨rfl, L1, hp1, hs1, ho1, g36⟩
  refine ⟨_, rfl, fun an34 n34 => ?_⟩
  have G37 := Gr.grown G24 g36 (fun k e => Nat.le_trans hB (ow_lt O27 k e))
  have B38 := B25.grown_ne g36 l7
  have B39 := W18.bk.grown_ne g36 l21
  have z40 := Nat.le_trans z26 g36.size
  have O41 := ow_grown O28 O27 g36 rfl
  have F42 := gb_gb F29 g36
  refine wpList_nil ?_
  refine th_n (hK31 _ _ ?_)
  refine wp_seq_k (fun K43 hK43 => ?_)
  refine wp_seq_k (fun K44 hK44 => ?_)
  refine wp_region_lit ?_
  refine sv n34.ok rfl (wn _ rfl) rfl (o_mv (n34.ne rfl (n33.ne rfl e32))) (fun an45 n45 => ?_)
  refine sc n45.ok rfl (wn _ rfl) rfl (o_f1 Try.func83 rfl rfl rfl n45.at_) (compact_ownS L1 _ w35 base (by rw [hp1.length_eq]; exact hl) ho1) ?_
  rintro _ w47 ⟨u2, rfl, hob2, ho2, g48⟩
  obtain ⟨da, dc, rfl, -⟩ := ow_form ho2
  have hlD : (ddT L1 L1.length).length ≤ L.length := Nat.le_trans (ddT_len _ _) (Nat.le_of_eq hp1.length_eq)
  have hMs := ddT_sort hs1 (Nat.le_refl _)
  have hMR : ∀ d ∈ (ddT L1 L1.length), inR d.1 d.2 := fun d hd => hR d ((ddT_memL hp1 d).1 hd)
  have hF : addS D L = addS D (ddT L1 L1.length) := addS_congr D fun x => (ddT_memL hp1 x).symm
  refine ⟨_, rfl, fun an46 n46 => ?_⟩
  have G49 := Gr.grown G37 g48 (fun k e => Nat.le_trans hB (ow_lt ho1 k e))
  have B50 := bk_grownT B38 ho1 g48 (by decide)
  have B51 := bk_grownT B39 ho1 g48 (by decide)
  have z52 := Nat.le_trans z40 g48.size
  have O53 := ow_grown O41 ho1 g48 rfl
  have F54 := gb_gb F42 g48
  refine sv n46.ok rfl (wn _ rfl) rfl (o_len n46.at_ Try.underlying28) (fun an55 n55 => ?_)
  refine sv n55.ok rfl (wn _ rfl) rfl (o_mv ev_const) (fun an56 n56 => ?_)
  refine wpList_nil ?_
  refine th_n (hK44 _ _ ?_)
  refine wp_block ?_
  have hkn0 : KnW base w47 (.agg #[.slice ka (formV D).length kb, .slice kc 0 kd]) (formV (addS D ((ddT L1 L1.length).take 0))) (formM (addS D ((ddT L1 L1.length).take 0))) := by rw [List.take_zero, addS_nil, hD.formM]; exact KnW.vec O53 hN
  have e58 := n56.ne rfl (n55.ne rfl (n46.ne rfl (n45.ne rfl (n34.ne rfl (n33.ne rfl (n30.ne rfl (n15.ne rfl n2.at_)))))))
  have e59 := n56.ne rfl (n55.ne rfl (n46.ne rfl (n45.ne rfl (n34.ne rfl (n33.ne rfl (n30.ne rfl n15.at_))))))
  have e60 := n56.ne rfl (n55.ne rfl (n46.ne rfl (n45.ne rfl (n34.ne rfl (n33.ne rfl n30.at_)))))
  refine lp (fun (nL : Nat) (aL : Act) (wL : World) => ∃ i : Nat, ∃ ka : Option Addr, ∃ nV : Nat, ∃ kb : Nat, ∃ kc : Option Addr, ∃ nM : Nat, ∃ kd : Nat, nL = (ddT L1 L1.length).length - i ∧ Ok 30 aL ∧ Gr w0 wL ∧ (aL.eval (.tmp 2) = .pointer (some ⟨b3, 0, none⟩)) ∧ (aL.eval (.tmp 4) = .pointer (some ⟨b16, 0, none⟩)) ∧ (aL.eval (.tmp 5) = .int .i64 0) ∧ (aL.eval (.tmp 12) = .slice da ((ddT L1 L1.length).length) dc) ∧ (aL.eval (.tmp 13) = .int .i64 (((ddT L1 L1.length).length : Nat) : Int)) ∧ (aL.eval (.tmp 14) = .int .i64 (i : Int)) ∧ (Bk wL b3 #[.slice ka nV kb, .slice kc nM kd] 30) ∧ (Bk wL b16 #[.slice none 0 0, .slice none 0 0] 30) ∧ (w.grownBy wL (Value.ownBlock (.slice ra L.length rc))) ∧ (KnW base wL (.agg #[.slice ka nV kb, .slice kc nM kd]) (formV (addS D ((ddT L1 L1.length).take i))) (formM (addS D ((ddT L1 L1.length).take i)))) ∧ (World.ownsRow wL base 24 2 (.slice da ((ddT L1 L1.length).length) dc) ((ddT L1 L1.length).length) ((flat (pairs (ddT L1 L1.length))))) ∧ (base ≤ wL.heap.size) ∧ (i ≤ (ddT L1 L1.length).length) ∧ ((formM (addS D ((ddT L1 L1.length).take i))).length ≤ 60)) _ ⟨0, ka, (formV D).length, kb, kc, 0, kd, rfl, n56.ok, G49, e58, e59, e60, (n56.ne rfl (n55.ne rfl n46.at_)), (n56.ne rfl n55.at_), n56.at_, B50, B51, F54, hkn0, ho2, z52, by omega, by rw [List.take_zero, addS_nil, hD.formM]; exact Nat.zero_le _⟩ ?_
  rintro m61 aI57 w63 ⟨i, ka, nV, kb, kc, nM, kd, hmI57, okI57, GI57, s2I57, s4I57, s5I57, s12I57, s13I57, s14I57, kb3I57, kb16I57, fgbI57, fknI57, odrI57, zbaseI57, hiI57, hEI57⟩ KI57 hKI57
  refine wp_seq_k (fun K64 hK64 => ?_)
  refine wp_region_lit ?_
  refine sv okI57 rfl (wn _ rfl) rfl (o_ltI s14I57 s13I57) (fun an65 n65 => ?_)
  refine wpList_nil ?_
  refine th_n (hK64 _ _ ?_)
  refine wp_seq_k (fun K66 hK66 => ?_)
  by_cases c67 : (i : Int) < (((ddT L1 L1.length).length : Nat) : Int)
  · refine wp_cond_true ((n65.at_).trans (congrArg Value.bool (decide_eq_true c67))) ?_
    have A69 := Gr.refl w63
    refine wp_skip ?_
    refine th_n (hK66 _ _ ?_)
    refine wp_seq_k (fun K70 hK70 => ?_)
    refine wp_block ?_
    refine wp_seq_k (fun K71 hK71 => ?_)
    refine wp_region_lit ?_
    have h72l : i < (ddT L1 L1.length).length := by omega
    obtain ⟨bh72, fh72, h72a, h72b, h72c⟩ := RdA.own encD_ok (by have h := odrI57; rw [flat_encD] at h; exact h) rfl (ne_nil_of_lt h72l)
    obtain ⟨xh72, h72x⟩ : ∃ x, (ddT L1 L1.length)[i]? = some x := ⟨_, List.getElem?_eq_getElem h72l⟩
    refine sv n65.ok rfl (wn _ rfl) rfl (o_iaV (i := i) (s := 2) h72a (n65.ne rfl s12I57) (n65.ne rfl s14I57) Try.underlying28 (by kernel_rfl) h72l) (fun an73 n73 => ?_)
    refine sv n73.ok rfl (wn _ rfl) rfl (o_ldA (k := fh72 + i * 2) n73.at_ (cs := [.int .i64 ((xh72.1 : Nat) : Int), .int .i64 ((xh72.2 : Nat) : Int)]) (fun j v hv => h72c _ _ h72x j v hv) Try.underlying24 rfl (by kernel_rfl)) (fun an74 n74 => ?_)
    refine sal (cs := #[.int .i64 0, .int .i64 0]) n74.ok rfl (wn _ rfl) rfl (o_al (z := .agg #[.int .i64 0, .int .i64 0]) (by kernel_rfl)) (fun an75 w77 b76 W78 n75 => ?_)
    have l79 : b3 < b76 := by rw [W78.eq]; exact kb3I57.lt
    have l80 : b16 < b76 := by rw [W78.eq]; exact kb16I57.lt
    have l81 : w0.heap.size ≤ b76 := by rw [W78.eq]; exact GI57.size
    have l82 : w63.heap.size ≤ b76 := by rw [W78.eq]; exact A69.size
    have l83 : ∀ k, Value.ownBlock (.slice da ((ddT L1 L1.length).length) dc) = some k → k < b76 := fun k e => by rw [W78.eq]; exact ow_in odrI57 k e
    have l84 : w.heap.size ≤ b76 := by rw [W78.eq]; exact fgbI57.size
    have G85 := GI57.trans W78.gr
    have B86 := kb3I57.gr W78.gr
    have B87 := kb16I57.gr W78.gr
    have A88 := A69.trans W78.gr
    have z89 := Nat.le_trans zbaseI57 W78.gr.size
    have O90 := ow_gr odrI57 W78.gr
    have F91 := gb_gr fgbI57 W78.gr
    refine ssR rfl (wn _ rfl) (o_stR n75.at_ (n75.ne rfl n74.at_) W78.bk (by kernel_rfl) rfl (by simp [Value.oneCell'])) W78.bk (fun w92 u93 u93b => ?_)
    have G94 : Gr w0 w92 := Below.upd G85 l81 u93
    have B95 := B86.upd u93 (Nat.ne_of_lt l79)
    have B96 := B87.upd u93 (Nat.ne_of_lt l80)
    have A97 : Gr w63 w92 := Below.upd A88 l82 u93
    have z98 : base ≤ w92.heap.size := by rw [u93.size]; exact z89
    have O99 := ow_upd_ne O90 u93 l83
    have F100 := gb_upd F91 u93 l84
    refine wpList_nil ?_
    refine th_n (hK71 _ _ ?_)
    refine wp_seq_k (fun K101 hK101 => ?_)
    refine wp_region_lit ?_
    refine sv n75.ok rfl (wn _ rfl) rfl (o_as ev_const) (fun an102 n102 => ?_)
    refine wpList_nil ?_
    refine th_n (hK101 _ _ ?_)
    refine wp_seq_k (fun K103 hK103 => ?_)
    refine wp_region_lit ?_
    have e104 := n102.ne rfl (n75.ne rfl (n74.ne rfl (n73.ne rfl (n65.ne rfl s2I57))))
    refine sv n102.ok rfl (wn _ rfl) rfl (o_ldR e104 B95 Try.underlying30 rfl (by kernel_rfl)) (fun an105 n105 => ?_)
    refine sv n105.ok rfl (wn _ rfl) rfl (o_ldR (n105.ne rfl (n102.ne rfl n75.at_)) u93b Try.underlying24 rfl (by kernel_rfl)) (fun an106 n106 => ?_)
    refine sc n106.ok rfl (wn _ rfl) rfl (o_f2 Try.func84 rfl rfl rfl (n106.ne rfl n105.at_) n106.at_) ((by have h := add_c (.agg #[.slice ka nV kb, .slice kc nM kd]) (addS D ((ddT L1 L1.length).take i)) xh72 base w92 z98 ((fknI57).rd.gr A97) hEI57 (hMR _ (List.mem_of_getElem? h72x)); rw [addS_step h72x] at h; exact h)) ?_
    rintro _ w108 ⟨ka2, nV2, kb2, kc2, nM2, kd2, rfl, hkn2, g109⟩
    refine ⟨_, rfl, fun an107 n107 => ?_⟩
    have G110 := G94.trans g109
    have B111 := B95.gr g109
    have B112 := B96.gr g109
    have B113 := u93b.gr g109
    have A114 := A97.trans g109
    have z115 := Nat.le_trans z98 g109.size
    have O116 := ow_gr O99 g109
    have F117 := gb_gr F100 g109
    refine sv n107.ok rfl (wn _ rfl) rfl (o_mv n107.at_) (fun an118 n118 => ?_)
    refine sv n118.ok rfl (wn _ rfl) rfl (o_ex n118.at_ rfl) (fun an119 n119 => ?_)
    refine sv n119.ok rfl (wn _ rfl) rfl (o_ex (n119.ne rfl n118.at_) rfl) (fun an120 n120 => ?_)
    have e121 := n120.ne rfl (n119.ne rfl (n118.ne rfl (n107.ne rfl (n106.ne rfl (n105.ne rfl e104)))))
    refine ssR rfl (wn _ rfl) (o_stR e121 (n120.ne rfl n119.at_) B111 (by kernel_rfl) rfl (by simp [Value.oneCell'])) B111 (fun w122 u123 u123b => ?_)
    have G124 : Gr w0 w122 := Below.upd G110 l6 u123
    have B125 := B112.upd u123 (Nat.ne_of_gt l19)
    have B126 := B113.upd u123 (Nat.ne_of_gt l79)
    have z128 : base ≤ w122.heap.size := by rw [u123.size]; exact z115
    have O129 := ow_updT O116 u123 B111 (by decide)
    have F130 := gb_upd F117 u123 l9
    have F131 := KnW.tks hkn2 (tks_upd u123 B111 (by decide))
    refine sv n120.ok rfl (wn _ rfl) rfl (o_as n120.at_) (fun an132 n132 => ?_)
    refine wpList_nil ?_
    refine th_n (hK103 _ _ ?_)
    refine wp_seq_k (fun K133 hK133 => ?_)
    refine wp_region_lit ?_
    refine sv n132.ok rfl (wn _ rfl) rfl (o_mv n132.at_) (fun an134 n134 => ?_)
    refine sv n134.ok rfl (wn _ rfl) rfl (o_neI n134.at_ ev_const) (fun an135 n135 => ?_)
    refine wpList_nil ?_
    refine th_n (hK133 _ _ ?_)
    by_cases c136 : ¬ (frE (addS D ((ddT L1 L1.length).take (i + 1)))) = 0
    · refine wp_cond_true ((n135.at_).trans (congrArg Value.bool (decide_eq_true c136))) ?_
      refine wp_seq_k (fun K137 hK137 => ?_)
      refine wp_region_lit ?_
      refine sv n135.ok rfl (wn _ rfl) rfl (o_b0 (cs := #[.slice none 0 0, .slice none 0 0]) Try.underlying30 (by kernel_rfl) (by kernel_rfl)) (fun an138 n138 => ?_)
      have e139 := n138.ne rfl (n135.ne rfl (n134.ne rfl n132.at_))
      refine sv n138.ok rfl (wn _ rfl) rfl (o_mv e139) (fun an140 n140 => ?_)
      have e141 := n140.ne rfl (n138.ne rfl (n135.ne rfl (n134.ne rfl (n132.ne rfl (n120.ne rfl (n119.ne rfl (n118.ne rfl (n107.ne rfl (n106.ne rfl (n105.ne rfl (n102.ne rfl (n75.ne rfl (n74.ne rfl (n73.ne rfl (n65.ne rfl s4I57)))))))))))))))
      refine ssR rfl (wn _ rfl) (o_stR e141 (n140.ne rfl n138.at_) B125 (by kernel_rfl) rfl (by simp [Value.oneCell'])) B125 (fun w142 u143 u143b => ?_)
      have G144 : Gr w0 w142 := Below.upd G124 l20 u143
      have B145 := u123b.upd u143 (Nat.ne_of_lt l19)
      have B146 := B126.upd u143 (Nat.ne_of_gt l80)
      have z147 : base ≤ w142.heap.size := by rw [u143.size]; exact z128
      have O148 := ow_updT O129 u143 B125 (by decide)
      have F149 := gb_upd F130 u143 l23
      have F150 := KnW.tks F131 (tks_upd u143 B125 (by decide))
      refine sv n140.ok rfl (wn _ rfl) rfl (o_as n140.at_) (fun an151 n151 => ?_)
      refine wpList_nil ?_
      refine th_n (hK137 _ _ ?_)
      refine wp_ret ?_
      refine ib_r ?_
      refine th_r ?_
      refine th_r ?_
      refine ib_r ?_
      refine th_r ?_
      exact ret2 n151.ok rfl (⟨_, _, (n151.ne rfl e141), ld_row u143b Try.underlying30 rfl (by kernel_rfl)⟩) (n151.at_) ⟨.agg #[.slice none 0 0, .slice none 0 0], by rw [hF, (fr_over c136 (addS_le hD hMs hMR ((ddT L1 L1.length).length - (i + 1)) (i + 1) (by omega))).1, (fr_over c136 (addS_le hD hMs hMR ((ddT L1 L1.length).length - (i + 1)) (i + 1) (by omega))).2.1] <;> rfl, by rw [hF, (fr_over c136 (addS_le hD hMs hMR ((ddT L1 L1.length).length - (i + 1)) (i + 1) (by omega))).2.2.1, (fr_over c136 (addS_le hD hMs hMR ((ddT L1 L1.length).length - (i + 1)) (i + 1) (by omega))).2.2.2]; exact KnW.vec (World.ownsRow_nil _ _ _ _) noM_nil, F149⟩
    · refine wp_cond_false ((n135.at_).trans (congrArg Value.bool (decide_eq_false c136))) ?_
      refine wp_skip ?_
      refine ib_n ?_
      refine th_n (hK70 _ _ ?_)
      refine wp_region_lit ?_
      have e152 := n135.ne rfl (n134.ne rfl (n132.ne rfl (n120.ne rfl (n119.ne rfl (n118.ne rfl (n107.ne rfl (n106.ne rfl (n105.ne rfl (n102.ne rfl (n75.ne rfl (n74.ne rfl (n73.ne rfl (n65.ne rfl s14I57)))))))))))))
      refine sv n135.ok rfl (wn _ rfl) rfl (o_add (r := ((i + 1 : Nat) : Int)) e152 ev_const (by omega) (by omega)) (fun an153 n153 => ?_)
      refine sv n153.ok rfl (wn _ rfl) rfl (o_mv n153.at_) (fun an154 n154 => ?_)
      refine wpList_nil ?_
      have e155 := n154.ne rfl (n153.ne rfl (n135.ne rfl (n134.ne rfl (n132.ne rfl e121))))
      have e156 := n154.ne rfl (n153.ne rfl (n135.ne rfl (n134.ne rfl (n132.ne rfl (n120.ne rfl (n119.ne rfl (n118.ne rfl (n107.ne rfl (n106.ne rfl (n105.ne rfl (n102.ne rfl (n75.ne rfl (n74.ne rfl (n73.ne rfl (n65.ne rfl s4I57)))))))))))))))
      have e157 := n154.ne rfl (n153.ne rfl (n135.ne rfl (n134.ne rfl (n132.ne rfl (n120.ne rfl (n119.ne rfl (n118.ne rfl (n107.ne rfl (n106.ne rfl (n105.ne rfl (n102.ne rfl (n75.ne rfl (n74.ne rfl (n73.ne rfl (n65.ne rfl s5I57)))))))))))))))
      have e158 := n154.ne rfl (n153.ne rfl (n135.ne rfl (n134.ne rfl (n132.ne rfl (n120.ne rfl (n119.ne rfl (n118.ne rfl (n107.ne rfl (n106.ne rfl (n105.ne rfl (n102.ne rfl (n75.ne rfl (n74.ne rfl (n73.ne rfl (n65.ne rfl s12I57)))))))))))))))
      have e159 := n154.ne rfl (n153.ne rfl (n135.ne rfl (n134.ne rfl (n132.ne rfl (n120.ne rfl (n119.ne rfl (n118.ne rfl (n107.ne rfl (n106.ne rfl (n105.ne rfl (n102.ne rfl (n75.ne rfl (n74.ne rfl (n73.ne rfl (n65.ne rfl s13I57)))))))))))))))
      exact th_n (hKI57 _ _ _ (by omega) ⟨i + 1, ka2, nV2, kb2, kc2, nM2, kd2, rfl, n154.ok, G124, e155, e156, e157, e158, e159, n154.at_, u123b, B125, F130, (by have h := F131; rw [(fr_small (Decidable.of_not_not c136)).1, (fr_small (Decidable.of_not_not c136)).2] at h; exact h), O129, z128, by omega, frE_zero (Decidable.of_not_not c136)⟩)
  · refine wp_cond_false ((n65.at_).trans (congrArg Value.bool (decide_eq_false c67))) ?_
    refine wp_exit ?_
    refine th_x ?_
    refine th_x ?_
    refine ib_x ?_
    refine th_n (hK43 _ _ ?_)
    refine wp_seq_k (fun K160 hK160 => ?_)
    refine wp_region_lit ?_
    refine sv n65.ok rfl (wn _ rfl) rfl (o_ldR (n65.ne rfl s2I57) kb3I57 Try.underlying30 rfl (by kernel_rfl)) (fun an161 n161 => ?_)
    refine ssR rfl (wn _ rfl) (o_stR (n161.ne rfl (n65.ne rfl s4I57)) n161.at_ kb16I57 (by kernel_rfl) rfl (by simp [Value.oneCell'])) kb16I57 (fun w162 u163 u163b => ?_)
    have G164 : Gr w0 w162 := Below.upd GI57 l20 u163
    have B165 := kb3I57.upd u163 (Nat.ne_of_lt l19)
    have z166 : base ≤ w162.heap.size := by rw [u163.size]; exact zbaseI57
    have O167 := ow_updT odrI57 u163 kb16I57 (by decide)
    have F168 := gb_upd fgbI57 u163 l23
    have F169 := KnW.tks fknI57 (tks_upd u163 kb16I57 (by decide))
    refine sv n161.ok rfl (wn _ rfl) rfl (o_as ev_const) (fun an170 n170 => ?_)
    refine wpList_nil ?_
    refine th_n (hK160 _ _ ?_)
    refine wp_ret ?_
    have e171 := n170.ne rfl (n161.ne rfl (n65.ne rfl s4I57))
    exact ret2 n170.ok rfl (⟨_, _, e171, ld_row u163b Try.underlying30 rfl (by kernel_rfl)⟩) (n170.at_) ⟨_, by rw [hF, (fr_of (by have h := hEI57; rw [List.take_of_length_le (by omega)] at h; exact h)).1], by have h := F169; have q := hEI57; rw [List.take_of_length_le (by omega)] at h q; rw [hF, (fr_of q).2.1, (fr_of q).2.2]; exact h, F168⟩
end Go.Proofs.Ytoencnbpjjkjnaa

/- What is past of a thing, version by version; an operation of a row in a region that draws its order. -/
set_option linter.unusedVariables false
set_option linter.unusedSimpArgs false
namespace Gx
open Go Go.RowKit Rm
section
variable {P : Program} {ops : Array Oper} {Q : Exit → Act → World → Prop} {N : Nat} {S : World → Prop}
/-- this block stands -/
def SxB (b : Nat) (cs : Array Value) (t : TypeId) (x : World) : Prop := Bk x b cs t
theorem h_startB {id : Nat} {a : Act} {w : World} (b : Nat) (cs : Array Value) (t : TypeId) (n : Nat) (L : Array Bool) (hf : P.follows .mixedOrders = true) (hn : ops.size = n) (hL : Array.replicate ops.size false = L)
    (h : wpAnyH P .any ops Q (SxB b cs t) n L a w.drew) : (Code.region id ops true).wp P Q a w := by
  subst hn hL
  exact wp_region_held hf h
theorem h_one {i : Nat} {o : Oper} {fuel : Nat} {L : Array Bool} {a : Act} {w : World} (hr : Region.ready .any ops L = [i]) (ho : ops[i]? = some o) (hw : Region.wanted o (yielded ops a.tmps) = true)
    (h : o.wp P a w (fun a' w' => S w' ∧ wpAnyH P .any ops Q S fuel (L.setIfInBounds i true) a' w') Q) : wpAnyH P .any ops Q S (fuel + 1) L a w := by
  refine wpAnyH_all hr (by simp) fun j hj => ?_
  obtain rfl : j = i := by simpa using hj
  unfold wpOp
  rw [ho]
  simp only [hw, if_true]
  exact .inl h
theorem h_val {i : Nat} {o : Oper} {fuel : Nat} {L : Array Bool} {a : Act} {w w' : World} {d : Nat} {v : Value} (hr : Region.ready .any ops L = [i]) (ho : ops[i]? = some o) (ok : Ok N a) (hd : o.dst = some d) (hw : Region.wanted o (yielded ops a.tmps) = true) (hN : Nat.blt d N = true)
    (hrun : (execOp a.eval o).run P w = .ok (.value v) w') (hS : S w') (h : ∀ a', Nx N a a' d v → wpAnyH P .any ops Q S fuel (L.setIfInBounds i true) a' w') : wpAnyH P .any ops Q S (fuel + 1) L a w := by
  refine h_one hr ho hw ?_
  unfold Oper.wp
  rw [hrun]
  show S w' ∧ wpAnyH P .any ops Q S fuel (L.setIfInBounds i true) (a.put o.dst v) w'
  rw [hd]
  exact ⟨hS, h _ (Nx.put ok hN v)⟩
theorem h_sals {i : Nat} {o : Oper} {fuel : Nat} {L : Array Bool} {a : Act} {w : World} {d n c : Nat} {cs : Array Value} {t : TypeId} (hr : Region.ready .any ops L = [i]) (ho : ops[i]? = some o) (ok : Ok N a) (hd : o.dst = some d) (hw : Region.wanted o (yielded ops a.tmps) = true) (hN : Nat.blt d N = true)
    (hrun : (execOp a.eval o).run P w = .ok (.value (.slice (some ⟨w.heap.size, 0, none⟩) n c)) (w.alloc (.cells cs t))) (hS : ∀ w', Gr w w' → S w')
    (h : ∀ a' w' b, New w w' b cs t → Nx N a a' d (.slice (some ⟨b, 0, none⟩) n c) → wpAnyH P .any ops Q S fuel (L.setIfInBounds i true) a' w') : wpAnyH P .any ops Q S (fuel + 1) L a w :=
  h_val hr ho ok hd hw hN hrun (hS _ (New.mk' w cs t).gr) fun a' n => h a' _ _ (New.mk' w cs t) n
theorem h_app {i fuel : Nat} {L : Array Bool} {a : Act} {w : World} {dd : Nat} {s x : Operand} {t ty : TypeId} {p : String} {af : Array Edge} {g : Option (Nat × Bool)} {base : Nat} {e : TypeId} {ti : TypeInfo} {z : Value} {size bytes : Nat}
    (hr : Region.ready .any ops L = [i]) (ho : ops[i]? = some (Oper.mk (some dd) (.call { callee := .builtin .append, args := #[s, x], argTypes := #[t, t] }) ty p af g)) (ok : Ok N a)
    (hw : Region.wanted (Oper.mk (some dd) (.call { callee := .builtin .append, args := #[s, x], argTypes := #[t, t] }) ty p af g) (yielded ops a.tmps) = true) (hN : Nat.blt dd N = true)
    (ht : P.underlying t = some (.slice e)) (hi : P.info? e = some ti) (hz : ti.zero = some z) (hsize : ti.size = size) (hby : ti.bytes = bytes) (hzs : z.cells.size = size) (hsz : 0 < size)
    {v : Value} {n : Nat} {xs : List Value} (hs : a.eval s = v) (hown : w.ownsRow base e size v n xs)
    {ad : Addr} {m c : Nat} {news : List Value} (hx : a.eval x = .slice (some ad) m c) (hl : news.length = m * size) (hnews : ∀ j u, news[j]? = some u → w.cell? (ad.add j) = some u) (h1 : ∀ u ∈ news, u.oneCell' = true)
    (h63 : n + m ≤ maxLen) (hbytes : (n + m) * bytes ≤ 140737488355328) (hbase : base ≤ w.heap.size) (hS : ∀ w', w.grownBy w' v.ownBlock → S w')
    (h : ∀ a' w' v', w'.ownsRow base e size v' (n + m) (xs ++ news) → w.grownBy w' v.ownBlock → Nx N a a' dd v' → wpAnyH P .any ops Q S fuel (L.setIfInBounds i true) a' w') : wpAnyH P .any ops Q S (fuel + 1) L a w := by
  refine h_one hr ho hw ?_
  exact wp_append_own w s x t rfl base e ti z size bytes ht hi hz hsize hby hzs hsz v n xs hs hown ad m c news hx hl hnews h1 h63 hbytes hbase fun v' w' h2 h3 _ => ⟨hS _ h3, h _ w' v' h2 h3 (Nx.put ok hN v')⟩
/-- a slice that may be nil is appended -/
theorem h_appR {i fuel : Nat} {L : Array Bool} {a : Act} {w : World} {dd : Nat} {s x : Operand} {t ty : TypeId} {p : String} {af : Array Edge} {g : Option (Nat × Bool)} {base : Nat} {e : TypeId} {ti : TypeInfo} {z : Value} {size bytes : Nat}
    (hr : Region.ready .any ops L = [i]) (ho : ops[i]? = some (Oper.mk (some dd) (.call { callee := .builtin .append, args := #[s, x], argTypes := #[t, t] }) ty p af g)) (ok : Ok N a)
    (hw : Region.wanted (Oper.mk (some dd) (.call { callee := .builtin .append, args := #[s, x], argTypes := #[t, t] }) ty p af g) (yielded ops a.tmps) = true) (hg : g = none) (hN : Nat.blt dd N = true)
    (ht : P.underlying t = some (.slice e)) (hi : P.info? e = some ti) (hz : ti.zero = some z) (hsize : ti.size = size) (hby : ti.bytes = bytes) (hzs : z.cells.size = size) (hsz : 0 < size)
    {v : Value} {n : Nat} {xs : List Value} (hs : a.eval s = v) (hown : w.ownsRow base e size v n xs)
    {u : Value} {m : Nat} {news : List Value} (hx : a.eval x = u) (hn : RdC size w u m news)
    (h63 : n + m ≤ maxLen) (hbytes : (n + m) * bytes ≤ 140737488355328) (hbase : base ≤ w.heap.size) (hS0 : S w) (hS : ∀ w', w.grownBy w' v.ownBlock → S w')
    (h : ∀ a' w' v', w'.ownsRow base e size v' (n + m) (xs ++ news) → w.grownBy w' v.ownBlock → Nx N a a' dd v' → wpAnyH P .any ops Q S fuel (L.setIfInBounds i true) a' w') : wpAnyH P .any ops Q S (fuel + 1) L a w := by
  obtain ⟨hl, h1, ⟨rfl, rfl⟩ | ⟨ad, c, rfl, hc, hb, hnews⟩⟩ := hn
  · obtain rfl : news = [] := List.eq_nil_of_length_eq_zero (by simpa using hl)
    refine wpAnyH_all hr (by simp) fun j hj => ?_
    obtain rfl : j = i := by simpa using hj
    unfold wpOp
    rw [ho]
    simp only [hw, if_true]
    refine .inl ?_
    have hrun := run_append_owned_none (P := P) (w := w) base t ty e ti size ht hi v n xs hown
    unfold Oper.wp
    simp [execOp, resolve, invoke, builtin, hs, hx, hrun, Result.andThen]
    refine ⟨hS0, ?_⟩
    exact h _ w v (by simpa using hown) (gb_self) (Nx.put ok hN v)
  · exact h_app hr ho ok hw hN ht hi hz hsize hby hzs hsz hs hown hx hl hnews h1 h63 hbytes hbase hS h
end
end Gx
namespace Rm
open Go Go.RowKit Gx
def vD (x : VerD) : DS := memB (x.V.map Int.toNat) []
def ndI (x : VerD) : List (Int × Int) := (x.s, x.c) :: x.M
def pF (L : List VerD) (id : List UInt8) : List VerD := L.filter fun x => decide (x.id = id)
def pV (L : List VerD) (id : List UInt8) : DS := fun s c => (pF L id).any fun x => vD x s c
def pI (L : List VerD) (id : List UInt8) : List (Int × Int) := (pF L id).flatMap ndI
def toN (l : List (Int × Int)) : List (Nat × Nat) := l.map fun d => (d.1.toNat, d.2.toNat)
/-- all that is past of a thing -/
def pD (L : List VerD) (id : List UInt8) : DS := addS (pV L id) (toN (pI L id))
theorem pF_step {L : List VerD} {i : Nat} {x : VerD} {id : List UInt8} (h : L[i]? = some x) (hid : x.id = id) : pF (L.take (i + 1)) id = pF (L.take i) id ++ [x] := by
  unfold pF
  rw [List.take_add_one, h, List.filter_append]
  simp [hid]
theorem pF_skip {L : List VerD} {i : Nat} {x : VerD} {id : List UInt8} (h : L[i]? = some x) (hid : ¬ x.id = id) : pF (L.take (i + 1)) id = pF (L.take i) id := by
  unfold pF
  rw [List.take_add_one, h, List.filter_append]
  simp [hid]
theorem pV_step {L : List VerD} {i : Nat} {x : VerD} {id : List UInt8} (h : L[i]? = some x) (hid : x.id = id) : pV (L.take (i + 1)) id = orD (pV (L.take i) id) (vD x) := by
  funext s c
  unfold pV orD
  rw [pF_step h hid, List.any_append]
  simp
theorem pV_skip {L : List VerD} {i : Nat} {x : VerD} {id : List UInt8} (h : L[i]? = some x) (hid : ¬ x.id = id) : pV (L.take (i + 1)) id = pV (L.take i) id := by
  unfold pV
  rw [pF_skip h hid]
theorem pI_step {L : List VerD} {i : Nat} {x : VerD} {id : List UInt8} (h : L[i]? = some x) (hid : x.id = id) : pI (L.take (i + 1)) id = pI (L.take i) id ++ ndI x := by
  unfold pI
  rw [pF_step h hid, List.flatMap_append]
  simp
theorem pI_skip {L : List VerD} {i : Nat} {x : VerD} {id : List UInt8} (h : L[i]? = some x) (hid : ¬ x.id = id) : pI (L.take (i + 1)) id = pI (L.take i) id := by
  unfold pI
  rw [pF_skip h hid]
theorem pV_pure (L : List VerD) (id : List UInt8) : Pure (pV L id) := pure_of fun s c hi hc hd => by
  unfold pV at hd ⊢
  rw [List.any_eq_true] at hd ⊢
  obtain ⟨x, hx, h⟩ := hd
  exact ⟨x, hx, (pure_vec _).down hi hc h⟩
theorem pV_nil (L : List VerD) (id : List UInt8) : formV (pV (L.take 0) id) = [] := by
  have ok0 : OkV [] [] := ⟨by simp, by simp, by simp, by simp, by simp⟩
  refine (ok0.form (D := pV (L.take 0) id) fun s c i => ?_).1
  rw [List.take_zero]
  have : ¬ ((1 ≤ c ∧ c ≤ cv [] s) ∨ (s, c) ∈ ([] : List (Nat × Nat))) := by
    rintro (h | h)
    · simp [cv] at h; omega
    · cases h
  rw [← memB_iff, Bool.not_eq_true] at this
  rw [this]
  rfl
theorem pairs_toN {l : List (Int × Int)} (h : ∀ d ∈ l, dotB d = true) : pairs (toN l) = l := by
  unfold pairs toN
  rw [List.map_map]
  conv => rhs; rw [← List.map_id l]
  refine List.map_congr_left fun d hd => ?_
  obtain ⟨h1, h2, h3, h4⟩ := (dotB_iff _).1 (h d hd)
  simp only [Function.comp, id]
  rw [Int.toNat_of_nonneg h1, Int.toNat_of_nonneg (by omega)]
theorem toN_in {l : List (Int × Int)} (h : ∀ d ∈ l, dotB d = true) : ∀ d ∈ toN l, inR d.1 d.2 := fun d hd => by
  unfold toN at hd
  obtain ⟨e, he, rfl⟩ := List.mem_map.1 hd
  obtain ⟨h1, h2, h3, h4⟩ := (dotB_iff _).1 (h e he)
  exact ⟨by simp only; omega, by simp only; omega, by simp only; omega⟩
theorem chk_dots {V : List Int} {M : List (Int × Int)} (h : chkK V M = 0) : M.length ≤ 60 ∧ ∀ d ∈ M, dotB d = true := by
  obtain ⟨v, m, rfl, rfl, ok, hl⟩ := chkK_zero h
  refine ⟨by rw [pairs_len]; exact hl, fun d hd => ?_⟩
  unfold pairs at hd
  obtain ⟨e, he, rfl⟩ := List.mem_map.1 hd
  obtain ⟨h1, h2, h3⟩ := ok.dots e he
  rw [dotB_iff]
  refine ⟨by simp only; omega, by simp only; omega, by simp only; omega, by simp only; omega⟩
theorem nd_in {x : VerD} (h : chkOne x = 0) : (ndI x).length ≤ 61 ∧ ∀ d ∈ ndI x, dotB d = true := by
  obtain ⟨-, h2, h3, -⟩ := chkOne_zero h
  obtain ⟨h4, h5⟩ := chk_dots h3
  refine ⟨by unfold ndI; rw [List.length_cons]; omega, fun d hd => ?_⟩
  rcases List.mem_cons.1 hd with rfl | hd
  · exact argB_dot h2
  · exact h5 d hd
theorem pI_in {L : List VerD} (id : List UInt8) (h : ∀ x ∈ L, chkOne x = 0) : ∀ d ∈ pI L id, dotB d = true := fun d hd => by
  unfold pI at hd
  obtain ⟨x, hx, h1⟩ := List.mem_flatMap.1 hd
  exact (nd_in (h x (List.mem_filter.1 hx).1)).2 d h1
theorem flatMap_len {α β : Type} {f : α → List β} {n : Nat} : ∀ l : List α, (∀ x ∈ l, (f x).length ≤ n) → (l.flatMap f).length ≤ n * l.length
  | [], _ => by simp
  | a :: l, h => by
    have ih := flatMap_len l fun x hx => h x (List.mem_cons_of_mem _ hx)
    have h1 := h a (List.mem_cons_self ..)
    rw [List.flatMap_cons, List.length_append, List.length_cons, Nat.mul_add]
    omega
theorem pI_len {L : List VerD} (id : List UInt8) (h : ∀ x ∈ L, chkOne x = 0) : (pI L id).length ≤ 61 * L.length := by
  unfold pI
  refine Nat.le_trans (flatMap_len _ fun x hx => (nd_in (h x (List.mem_filter.1 hx).1)).1) (Nat.mul_le_mul_left _ ?_)
  exact List.length_filter_le _ _
end Rm
namespace Go.Proofs.Ytoencnbpjjkjnaa
open Go.RowKit Rm Gx
theorem knR_vecN {w : World} {base n c : Nat} {a : Option Addr} {mv : Value} {v : List Nat} (h : w.ownsRow base 3 1 (.slice a n c) n (flatI v)) (hm : NoM mv) : KnR w (.agg #[.slice a n c, mv]) (ints v) [] := by
  have hn : n = v.length := by
    have := h.1
    unfold flatI at this
    rw [List.length_map] at this
    omega
  subst hn
  exact knR_vecM h hm
theorem noM_rd {w : World} {vv : Value} {V : List Int} {M : List (Int × Int)} {mv : Value} (h : KnR w (.agg #[vv, mv]) V M) : KnR w (.agg #[vv, .slice none 0 0]) V [] := by
  obtain ⟨a, b, e, h1, -, -⟩ := h
  have e1 : vv = a := by
    injection e with e
    have e := congrArg Array.toList e
    exact (List.cons.inj e).1
  subst e1
  exact ⟨_, _, rfl, h1, (noM_nil w).1, (noM_nil w).2⟩
/-- two sets that their vectors hold alone are joined -/
theorem join_v (k k' : Value) (D E : DS) (V' : List Int) (M' : List (Int × Int)) (base : Nat) (w : World) (hb : base ≤ w.heap.size) (hD : Pure D) (hE : chkK V' M' = 0) (hEE : E = memB (V'.map Int.toNat) []) (hk : KnR w k (ints (formV D)) []) (hk' : KnR w k' V' []) :
    Calls Try.prog 38 #[k, k'] w fun e w' => ∃ va n vc ma mc, e = .returned (.tuple #[.agg #[.slice va n vc, .slice ma 0 mc], .int .i64 0]) ∧ w'.ownsRow base 3 1 (.slice va n vc) n (flatI (formV (orD D E))) ∧ NoM (.slice ma 0 mc) ∧ Gr w w' := by
  obtain ⟨v, m, rfl, rfl, ok, hl⟩ := chkK_zero hE
  have ev : (ints v).map Int.toNat = v := by
    unfold ints
    rw [List.map_map]
    conv => rhs; rw [← List.map_id v]
    exact List.map_congr_left fun x _ => by simp
  rw [ev] at hEE
  subst hEE
  have okD : OkV (formV D) [] := by have h := form_ok D; rw [hD.formM] at h; exact h
  have okE : OkV v [] := ⟨ok.len, ok.le, ok.last, (fun d hd => by cases hd), List.Pairwise.nil⟩
  refine (join_ok k k' (formV D) v [] [] w hk hk' okD okE (by simp) (by simp)).mono ?_
  rintro e w' ⟨h, g⟩
  have hp : Pure (orD D (memB v [])) := hD.or (pure_vec v)
  have he : EqD (orD (memB (formV D) []) (memB v [])) (orD D (memB v [])) := fun s c i => by
    have := form_mem D s c i
    rw [hD.formM] at this
    unfold orD
    rw [this]
  obtain ⟨k2, h1, h2⟩ := (h.congr he).one
  obtain ⟨f1, f2, f3⟩ := fr_of (D := orD D (memB v [])) (by rw [hp.formM]; exact Nat.zero_le _)
  rw [f1] at h1
  rw [f2, f3, hp.formM] at h2
  have h5 := h2.rd
  obtain ⟨vv, mv, rfl, h3, h4⟩ := h2.less hb
  obtain ⟨a, c, rfl, -⟩ := ow_form h3
  obtain ⟨a', c', rfl, -⟩ := ow_form h4
  exact ⟨a, _, c, a', c', h1, h3, noM_of h5, g⟩
theorem addAll_n (D : DS) (I : List (Int × Int)) (nV nD : Nat) (ka kc ra : Option Addr) (kb kd rc base : Nat) (hD : Pure D) (hI : ∀ d ∈ I, dotB d = true) (hl : I.length ≤ 10000) (hN : NoM (.slice kc 0 kd)) (w0 w : World) (hG : Gr w0 w) (hB : w0.heap.size ≤ base) (hz : base ≤ w.heap.size) (ho : w.ownsRow base 24 2 (.slice ra nD rc) nD (flat I)) (hv : w.ownsRow base 3 1 (.slice ka nV kb) nV (flatI (formV D))) :
    Calls Try.prog 44 #[.agg #[.slice ka nV kb, .slice kc 0 kd], .slice ra nD rc] w fun e w' => ∃ k, e = .returned (.tuple #[k, .int .i64 (frE (addS D (toN I)))]) ∧ KnW base w' k (frV (addS D (toN I))) (frM (addS D (toN I))) ∧ w.grownBy w' (Value.ownBlock (.slice ra nD rc)) := by
  have hn : nV = (formV D).length := by
    have := hv.1
    unfold flatI at this
    rw [List.length_map] at this
    omega
  have hd : nD = (toN I).length := by
    have h1 := ho.1
    have h2 : (flat I).length = I.length * 2 := by rw [flat_len]
    unfold toN
    rw [List.length_map]
    omega
  rw [hn, hd]
  rw [hn] at hv
  rw [hd] at ho
  have ho2 : w.ownsRow base 24 2 (.slice ra (toN I).length rc) (toN I).length (flat (pairs (toN I))) := by rw [pairs_toN hI]; exact ho
  exact addAll_any D (toN I) ka kc ra kb kd rc base hD (toN_in hI) (by unfold toN; rw [List.length_map]; exact hl) hN w0 w hG hB hz ho2 hv
end Go.Proofs.Ytoencnbpjjkjnaa

/- shelf.Past. -/
set_option linter.unusedVariables false
set_option linter.unusedSimpArgs false
namespace Go.Proofs.Ytoencnbpjjkjnaa
open Go.RowKit Rm Gx
theorem rdc_M {w : World} {x : VerI} (h : MeanV w x) : RdC 2 w (.slice x.ma x.d.M.length x.mc) x.d.M.length (flat x.d.M) := by
  obtain ⟨a, b, e, -, -, h3⟩ := h
  have e1 : (Value.slice x.ma x.d.M.length x.mc) = b := by
    unfold VerI.k at e
    injection e with e
    have e := congrArg Array.toList e
    exact (List.cons.inj (List.cons.inj e).2).1
  rw [e1]
  exact h3
theorem knR_form {w : World} {k : Value} {V : List Int} {M : List (Int × Int)} (h : KnR w k V M) : ∃ a n c a' m c', k = .agg #[.slice a n c, .slice a' m c'] := by
  obtain ⟨vv, mv, rfl, ⟨a, c, rfl, -⟩, ⟨a', c', rfl, -⟩, -⟩ := h
  exact ⟨_, _, _, _, _, _, rfl⟩
set_option maxHeartbeats 8000000 in
set_option maxRecDepth 100000 in
theorem past_ok (K : List VerI) (va : Option Addr) (vc : Nat) (l : List UInt8) (hE : chkShf (K.map VerI.d) = 0) (w : World) (hv : RdA encVr 8 w va K) (hm : MeansV w K) :
    Calls Try.prog 11 #[.slice va K.length vc, .string (bs l)] w fun e w' => ∃ k, e = .returned (.tuple #[k, .int .i64 (frE (pD (K.map VerI.d) l))]) ∧ KnR w' k (ints (frV (pD (K.map VerI.d) l))) (pairs (frM (pD (K.map VerI.d) l))) ∧ Gr w w' := by
  have hO := (okS_iff _).1 hE
  have hok := hO.one
  have hl60 : K.length ≤ 60 := by have := hO.len; simpa using this
  refine enter (N := 51) Try.func11 rfl rfl rfl (fun a0 ok0 h0 => ?_)
  have e0_0 : a0.eval (.tmp 0) = .slice va K.length vc := h0 0 _ rfl
  have e0_1 : a0.eval (.tmp 1) = .string (bs l) := h0 1 _ rfl
  clear h0
  have G0 := Gr.refl w
  refine wp_seq_k (fun K1 hK1 => ?_)
  refine wp_region_lit ?_
  refine sal (cs := #[.slice none 0 0, .slice none 0 0]) ok0 rfl (wn _ rfl) rfl (o_al (z := .agg #[.slice none 0 0, .slice none 0 0]) (by kernel_rfl)) (fun an2 w4 b3 W5 n2 => ?_)
  have l6 : w.heap.size ≤ b3 := by rw [W5.eq]; exact G0.size
  have G7 := G0.trans W5.gr
  refine sv n2.ok rfl (wn _ rfl) rfl (o_as ev_const) (fun an8 n8 => ?_)
  refine wpList_nil ?_
  refine th_n (hK1 _ _ ?_)
  refine wp_seq_k (fun K9 hK9 => ?_)
  refine wp_seq_k (fun K10 hK10 => ?_)
  refine wp_region_lit ?_
  refine sv n8.ok rfl (wn _ rfl) rfl (o_mv (n8.ne rfl (n2.ne rfl e0_0))) (fun an11 n11 => ?_)
  refine sc n11.ok rfl (wn _ rfl) rfl (o_f1 Try.func17 rfl rfl rfl n11.at_) ((vchk_any K va vc w4 (hv.gr G7) (hm.gr G7)).mono fun e w' h => (by rw [hE] at h; exact h)) ?_
  rintro _ w13 ⟨rfl, g14⟩
  refine ⟨_, rfl, fun an12 n12 => ?_⟩
  have G15 := G7.trans g14
  have B16 := W5.bk.gr g14
  refine sv n12.ok rfl (wn _ rfl) rfl (o_as n12.at_) (fun an17 n17 => ?_)
  refine wpList_nil ?_
  refine th_n (hK10 _ _ ?_)
  refine wp_seq_k (fun K18 hK18 => ?_)
  refine wp_region_lit ?_
  refine sv n17.ok rfl (wn _ rfl) rfl (o_mv n17.at_) (fun an19 n19 => ?_)
  refine sv n19.ok rfl (wn _ rfl) rfl (o_neq (b := false) n19.at_ ev_const (by decide)) (fun an20 n20 => ?_)
  refine wpList_nil ?_
  refine th_n (hK18 _ _ ?_)
  refine wp_cond_false (n20.at_) ?_
  refine wp_skip ?_
  refine th_n (hK9 _ _ ?_)
  refine wp_seq_k (fun K21 hK21 => ?_)
  refine wp_region_lit ?_
  refine sal (cs := #[.slice none 0 0, .slice none 0 0]) n20.ok rfl (wn _ rfl) rfl (o_al (z := .agg #[.slice none 0 0, .slice none 0 0]) (by kernel_rfl)) (fun an22 w24 b23 W25 n22 => ?_)
  have l26 : b3 < b23 := by rw [W25.eq]; exact B16.lt
  have l27 : w.heap.size ≤ b23 := by rw [W25.eq]; exact G15.size
  have G28 := G15.trans W25.gr
  have B29 := B16.gr W25.gr
  refine wpList_nil ?_
  refine th_n (hK21 _ _ ?_)
  refine wp_seq_k (fun K30 hK30 => ?_)
  refine wp_region_lit ?_
  refine sv n22.ok rfl (wn _ rfl) rfl (o_as ev_const) (fun an31 n31 => ?_)
  refine wpList_nil ?_
  refine th_n (hK30 _ _ ?_)
  refine wp_seq_k (fun K32 hK32 => ?_)
  refine wp_seq_k (fun K33 hK33 => ?_)
  refine wp_region_lit ?_
  have e34 := n31.ne rfl (n22.ne rfl (n20.ne rfl (n19.ne rfl (n17.ne rfl (n12.ne rfl (n11.ne rfl (n8.ne rfl (n2.ne rfl e0_0))))))))
  refine sv n31.ok rfl (wn _ rfl) rfl (o_mv e34) (fun an35 n35 => ?_)
  refine sv n35.ok rfl (wn _ rfl) rfl (o_len n35.at_ Try.underlying22) (fun an36 n36 => ?_)
  refine sv n36.ok rfl (wn _ rfl) rfl (o_mv ev_const) (fun an37 n37 => ?_)
  refine wpList_nil ?_
  refine th_n (hK33 _ _ ?_)
  refine wp_block ?_
  obtain ⟨base, z38⟩ : ∃ n, n = w24.heap.size := ⟨_, rfl⟩
  have l39 : b3 < base := by rw [z38]; exact B29.lt
  have l40 : b23 < base := by rw [z38]; exact W25.bk.lt
  have l41 : w.heap.size ≤ base := by rw [z38]; exact G28.size
  have z42 : base ≤ w24.heap.size := Nat.le_of_eq z38
  have O43 := World.ownsRow_nil w24 base 24 2
  have O44 := World.ownsRow_nil w24 base 3 1
  have e46 := n37.ne rfl (n36.ne rfl (n35.ne rfl (n31.ne rfl (n22.ne rfl (n20.ne rfl (n19.ne rfl (n17.ne rfl (n12.ne rfl (n11.ne rfl (n8.ne rfl (n2.ne rfl e0_1)))))))))))
  have e47 := n37.ne rfl (n36.ne rfl (n35.ne rfl (n31.ne rfl (n22.ne rfl (n20.ne rfl (n19.ne rfl (n17.ne rfl (n12.ne rfl (n11.ne rfl (n8.ne rfl n2.at_))))))))))
  have e48 := n37.ne rfl (n36.ne rfl (n35.ne rfl (n31.ne rfl (n22.ne rfl (n20.ne rfl (n19.ne rfl (n17.ne rfl (n12.ne rfl (n11.ne rfl n8.at_)))))))))
  have e49 := n37.ne rfl (n36.ne rfl (n35.ne rfl (n31.ne rfl n22.at_)))
  have e50 := n37.ne rfl (n36.ne rfl (n35.ne rfl n31.at_))
  refine lp (fun (nL : Nat) (aL : Act) (wL : World) => ∃ i : Nat, ∃ ka : Option Addr, ∃ nV : Nat, ∃ kb : Nat, ∃ kc : Option Addr, ∃ kd : Nat, ∃ ra : Option Addr, ∃ nD : Nat, ∃ rc : Nat, nL = K.length - i ∧ Ok 51 aL ∧ Gr w wL ∧ (aL.eval (.tmp 1) = .string (bs l)) ∧ (aL.eval (.tmp 4) = .pointer (some ⟨b3, 0, none⟩)) ∧ (aL.eval (.tmp 5) = .int .i64 0) ∧ (aL.eval (.tmp 7) = .pointer (some ⟨b23, 0, none⟩)) ∧ (aL.eval (.tmp 8) = .slice ra nD rc) ∧ (aL.eval (.tmp 17) = .slice va K.length vc) ∧ (aL.eval (.tmp 18) = .int .i64 ((K.length : Nat) : Int)) ∧ (aL.eval (.tmp 19) = .int .i64 (i : Int)) ∧ (Bk wL b3 #[.slice none 0 0, .slice none 0 0] 30) ∧ (Bk wL b23 #[.slice ka nV kb, .slice kc 0 kd] 30) ∧ (World.ownsRow wL base 24 2 (.slice ra nD rc) (nD) ((flat (pI (List.take i (K.map VerI.d)) l)))) ∧ (World.ownsRow wL base 3 1 (.slice ka nV kb) (nV) ((flatI (formV (pV (List.take i (K.map VerI.d)) l))))) ∧ (base ≤ wL.heap.size) ∧ (i ≤ K.length) ∧ (NoM (.slice kc 0 kd))) _ ⟨0, none, 0, 0, none, 0, none, 0, 0, rfl, n37.ok, G28, e46, e47, e48, e49, e50, (n37.ne rfl (n36.ne rfl n35.at_)), (n37.ne rfl n36.at_), n37.at_, B29, W25.bk, O43, (by rw [pV_nil]; exact O44), z42, by omega, noM_nil⟩ ?_
  rintro m51 aI45 w53 ⟨i, ka, nV, kb, kc, kd, ra, nD, rc, hmI45, okI45, GI45, s1I45, s4I45, s5I45, s7I45, s8I45, s17I45, s18I45, s19I45, kb3I45, kb23I45, odrI45, okvI45, zbaseI45, hiI45, hNI45⟩ KI45 hKI45
  have hlnI45 : nD ≤ 61 * i := by
    have h1 := (odrI45).1
    have h2 := pI_len l (L := (List.take i (K.map VerI.d))) (fun x hx => hok x (List.mem_of_mem_take hx))
    rw [flat_len] at h1
    rw [List.length_take] at h2
    have h3 : 61 * min i (K.map VerI.d).length ≤ 61 * i := Nat.mul_le_mul_left _ (Nat.min_le_left _ _)
    omega
  refine wp_seq_k (fun K54 hK54 => ?_)
  refine wp_region_lit ?_
  refine sv okI45 rfl (wn _ rfl) rfl (o_ltI s19I45 s18I45) (fun an55 n55 => ?_)
  refine wpList_nil ?_
  refine th_n (hK54 _ _ ?_)
  refine wp_seq_k (fun K56 hK56 => ?_)
  by_cases c57 : (i : Int) < ((K.length : Nat) : Int)
  · refine wp_cond_true ((n55.at_).trans (congrArg Value.bool (decide_eq_true c57))) ?_
    refine wp_skip ?_
    refine th_n (hK56 _ _ ?_)
    refine wp_seq_k (fun K58 hK58 => ?_)
    refine wp_block ?_
    refine wp_seq_k (fun K59 hK59 => ?_)
    refine wp_region_lit ?_
    have h60l : i < List.length K := by omega
    obtain ⟨bh60, fh60, h60a, h60b, h60c⟩ := hv (ne_nil_of_lt h60l)
    obtain ⟨xh60, h60x⟩ : ∃ x, (K)[i]? = some x := ⟨_, List.getElem?_eq_getElem h60l⟩
    refine sv n55.ok rfl (wn _ rfl) rfl (o_iaV (i := i) (s := 8) h60a (n55.ne rfl s17I45) (n55.ne rfl s19I45) Try.underlying22 (by kernel_rfl) h60l) (fun an61 n61 => ?_)
    refine sv n61.ok rfl (wn _ rfl) rfl (o_ldA (k := fh60 + i * 8) n61.at_ (cs := [.string (bs xh60.d.id), .int .i64 (xh60.d.s), .int .i64 (xh60.d.c), .int .i64 (xh60.d.t), .int .i64 (xh60.d.n), .int .i64 (xh60.d.b), .slice xh60.va xh60.d.V.length xh60.vc, .slice xh60.ma xh60.d.M.length xh60.mc]) (fun j v hv => (Below.cell GI45 h60b).trans (h60c _ _ h60x j v hv)) Try.underlying32 rfl (by kernel_rfl)) (fun an62 n62 => ?_)
    refine sal (cs := #[.string (bs []), .int .i64 0, .int .i64 0, .int .i64 0, .int .i64 0, .int .i64 0, .slice none 0 0, .slice none 0 0]) n62.ok rfl (wn _ rfl) rfl (o_al (z := .agg #[.string (bs []), .int .i64 0, .int .i64 0, .int .i64 0, .int .i64 0, .int .i64 0, .slice none 0 0, .slice none 0 0]) (by kernel_rfl)) (fun an63 w65 b64 W66 n63 => ?_)
    have l67 : b3 < b64 := by rw [W66.eq]; exact kb3I45.lt
    have l68 : b23 < b64 := by rw [W66.eq]; exact kb23I45.lt
    have l69 : w.heap.size ≤ b64 := by rw [W66.eq]; exact GI45.size
    have l70 : ∀ k, Value.ownBlock (.slice ra nD rc) = some k → k < b64 := fun k e => by rw [W66.eq]; exact ow_in odrI45 k e
    have l71 : ∀ k, Value.ownBlock (.slice ka nV kb) = some k → k < b64 := fun k e => by rw [W66.eq]; exact ow_in okvI45 k e
    have G72 := GI45.trans W66.gr
    have B73 := kb3I45.gr W66.gr
    have B74 := kb23I45.gr W66.gr
    have z75 := Nat.le_trans zbaseI45 W66.gr.size
    have O76 := ow_gr odrI45 W66.gr
    have O77 := ow_gr okvI45 W66.gr
    refine ssR rfl (wn _ rfl) (o_stR n63.at_ (n63.ne rfl n62.at_) W66.bk (by kernel_rfl) rfl (by simp [Value.oneCell'])) W66.bk (fun w78 u79 u79b => ?_)
    have G80 : Gr w w78 := Below.upd G72 l69 u79
    have B81 := B73.upd u79 (Nat.ne_of_lt l67)
    have B82 := B74.upd u79 (Nat.ne_of_lt l68)
    have z83 : base ≤ w78.heap.size := by rw [u79.size]; exact z75
    have O84 := ow_upd_ne O76 u79 l70
    have O85 := ow_upd_ne O77 u79 l71
    refine wpList_nil ?_
    refine th_n (hK59 _ _ ?_)
    refine wp_seq_k (fun K86 hK86 => ?_)
    refine wp_region_lit ?_
    refine sv n63.ok rfl (wn _ rfl) rfl (o_fa (z := 1) n63.at_ Try.underlying32 rfl (by kernel_rfl) rfl rfl) (fun an87 n87 => ?_)
    refine sv n87.ok rfl (wn _ rfl) rfl (o_ld n87.at_ (Try.isAgg9 _) (u79b.cell _ rfl)) (fun an88 n88 => ?_)
    have e89 := n88.ne rfl (n87.ne rfl (n63.ne rfl (n62.ne rfl (n61.ne rfl (n55.ne rfl s1I45)))))
    refine sv n88.ok rfl (wn _ rfl) rfl (o_mv e89) (fun an90 n90 => ?_)
    refine sv n90.ok rfl (wn _ rfl) rfl (o_eqS (n90.ne rfl n88.at_) n90.at_) (fun an91 n91 => ?_)
    refine wpList_nil ?_
    refine th_n (hK86 _ _ ?_)
    by_cases c92 : xh60.d.id = l
    · refine wp_cond_true ((n91.at_).trans (congrArg Value.bool (decide_eq_true c92))) ?_
      refine wp_seq_k (fun K93 hK93 => ?_)
      refine wp_region_lit ?_
      have e94 := n91.ne rfl (n90.ne rfl (n88.ne rfl (n87.ne rfl (n63.ne rfl (n62.ne rfl (n61.ne rfl (n55.ne rfl s7I45)))))))
      refine sv n91.ok rfl (wn _ rfl) rfl (o_ldR e94 B82 Try.underlying30 rfl (by kernel_rfl)) (fun an95 n95 => ?_)
      have e96 := n95.ne rfl (n91.ne rfl (n90.ne rfl (n88.ne rfl (n87.ne rfl n63.at_))))
      refine sv n95.ok rfl (wn _ rfl) rfl (o_fa (z := 2) e96 Try.underlying32 rfl (by kernel_rfl) rfl rfl) (fun an97 n97 => ?_)
      refine sv n97.ok rfl (wn _ rfl) rfl (o_fa (z := 1) n97.at_ Try.underlying30 rfl (by kernel_rfl) rfl rfl) (fun an98 n98 => ?_)
      refine sv n98.ok rfl (wn _ rfl) rfl (o_ld n98.at_ (Try.isAgg27 _) (u79b.cell _ rfl)) (fun an99 n99 => ?_)
      refine sv n99.ok rfl (wn _ rfl) rfl (o_bd (cells := #[.slice xh60.va xh60.d.V.length xh60.vc, .slice none 0 0]) (vs := [(0, .slice xh60.va xh60.d.V.length xh60.vc)]) (by simp [n99.at_, ev_const]) (by kernel_rfl)) (fun an100 n100 => ?_)
      have hMh60 : xh60.d.M.length ≤ 60 := (chk_dots (chkOne_zero (hok _ (List.mem_map_of_mem (List.mem_of_getElem? h60x)))).2.2.1).1
      have e101 := n100.ne rfl (n99.ne rfl (n98.ne rfl (n97.ne rfl n95.at_)))
      refine sc n100.ok rfl (wn _ rfl) rfl (o_f2 Try.func38 rfl rfl rfl e101 n100.at_) ((by have h := join_v (.agg #[.slice ka nV kb, .slice kc 0 kd]) (.agg #[.slice xh60.va xh60.d.V.length xh60.vc, .slice none 0 0]) (pV (List.take i (K.map VerI.d)) l) (vD xh60.d) xh60.d.V xh60.d.M base w78 z83 (pV_pure _ _) (chkOne_zero (hok _ (List.mem_map_of_mem (List.mem_of_getElem? h60x)))).2.2.1 rfl (knR_vecN O85 hNI45) (noM_rd ((hm _ (List.mem_of_getElem? h60x)).gr G80)); rw [← pV_step (map_at h60x) c92] at h; exact h)) ?_
      rintro _ w103 ⟨ka2, nV2, kb2, kc2, kd2, rfl, hkv2, hN2, g104⟩
      refine ⟨_, rfl, fun an102 n102 => ?_⟩
      have G105 := G80.trans g104
      have B106 := B81.gr g104
      have B107 := B82.gr g104
      have B108 := u79b.gr g104
      have z109 := Nat.le_trans z83 g104.size
      have O110 := ow_gr O84 g104
      refine sv n102.ok rfl (wn _ rfl) rfl (o_mv n102.at_) (fun an111 n111 => ?_)
      refine sv n111.ok rfl (wn _ rfl) rfl (o_ex n111.at_ rfl) (fun an112 n112 => ?_)
      refine sv n112.ok rfl (wn _ rfl) rfl (o_ex (n112.ne rfl n111.at_) rfl) (fun an113 n113 => ?_)
      have e114 := n113.ne rfl (n112.ne rfl (n111.ne rfl (n102.ne rfl (n100.ne rfl (n99.ne rfl (n98.ne rfl (n97.ne rfl (n95.ne rfl e94))))))))
      refine ssR rfl (wn _ rfl) (o_stR e114 (n113.ne rfl n112.at_) B107 (by kernel_rfl) rfl (by simp [Value.oneCell'])) B107 (fun w115 u116 u116b => ?_)
      have G117 : Gr w w115 := Below.upd G105 l27 u116
      have B118 := B106.upd u116 (Nat.ne_of_lt l26)
      have B119 := B108.upd u116 (Nat.ne_of_gt l68)
      have z120 : base ≤ w115.heap.size := by rw [u116.size]; exact z109
      have O121 := ow_upd O110 u116 l40
      have O122 := ow_upd hkv2 u116 l40
      refine wpList_nil ?_
      refine th_n (hK93 _ _ ?_)
      refine h_startB b64 #[.string (bs xh60.d.id), .int .i64 (xh60.d.s), .int .i64 (xh60.d.c), .int .i64 (xh60.d.t), .int .i64 (xh60.d.n), .int .i64 (xh60.d.b), .slice xh60.va xh60.d.V.length xh60.vc, .slice xh60.ma xh60.d.M.length xh60.mc] 32 10 #[false, false, false, false, false, false, false, false, false, false] (by kernel_rfl) rfl rfl ?_
      have g123 := (Gr.refl w115).drew
      generalize w115.drew = w124 at *
      have G125 := G117.trans g123
      have B126 := B118.gr g123
      have B127 := u116b.gr g123
      have B128 := B119.gr g123
      have z129 := Nat.le_trans z120 g123.size
      have O130 := ow_gr O121 g123
      have O131 := ow_gr O122 g123
      have e132 := n113.ne rfl (n112.ne rfl (n111.ne rfl (n102.ne rfl (n100.ne rfl (n99.ne rfl (n98.ne rfl (n97.ne rfl (n95.ne rfl (n91.ne rfl (n90.ne rfl (n88.ne rfl (n87.ne rfl (n63.ne rfl (n62.ne rfl (n61.ne rfl (n55.ne rfl s8I45))))))))))))))))
      refine h_take (S := (SxB b64 #[.string (bs xh60.d.id), .int .i64 (xh60.d.s), .int .i64 (xh60.d.c), .int .i64 (xh60.d.t), .int .i64 (xh60.d.n), .int .i64 (xh60.d.b), .slice xh60.va xh60.d.V.length xh60.vc, .slice xh60.ma xh60.d.M.length xh60.mc] 32)) (i := 0) (fuel := 9) n113.ok rfl rfl rfl (by kernel_rfl) (by kernel_rfl) (by kernel_rfl) (fun _ _ _ _ _ h => h) (wn _ rfl) (fun x hx => o_mv e132) B128 (fun an133 n133 => ?_)
      have e134 := n133.ne rfl (n113.ne rfl (n112.ne rfl (n111.ne rfl (n102.ne rfl (n100.ne rfl (n99.ne rfl (n98.ne rfl (n97.ne rfl e96))))))))
      refine h_take (S := (SxB b64 #[.string (bs xh60.d.id), .int .i64 (xh60.d.s), .int .i64 (xh60.d.c), .int .i64 (xh60.d.t), .int .i64 (xh60.d.n), .int .i64 (xh60.d.b), .slice xh60.va xh60.d.V.length xh60.vc, .slice xh60.ma xh60.d.M.length xh60.mc] 32)) (i := 1) (fuel := 8) n133.ok rfl rfl rfl (by kernel_rfl) (by kernel_rfl) (by kernel_rfl) (fun _ _ _ _ _ h => h) (wn _ rfl) (fun x hx => o_fa (z := 2) e134 Try.underlying32 rfl (by kernel_rfl) rfl rfl) B128 (fun an135 n135 => ?_)
      refine h_take (S := (SxB b64 #[.string (bs xh60.d.id), .int .i64 (xh60.d.s), .int .i64 (xh60.d.c), .int .i64 (xh60.d.t), .int .i64 (xh60.d.n), .int .i64 (xh60.d.b), .slice xh60.va xh60.d.V.length xh60.vc, .slice xh60.ma xh60.d.M.length xh60.mc] 32)) (i := 2) (fuel := 7) n135.ok rfl rfl rfl (by kernel_rfl) (by kernel_rfl) (by kernel_rfl) (fun _ _ _ _ _ h => h) (wn _ rfl) (fun x hx => o_ldA (k := 1) (cs := [.int .i64 (xh60.d.s), .int .i64 (xh60.d.c)]) n135.at_ (bk_part (show Bk x b64 #[.string (bs xh60.d.id), .int .i64 (xh60.d.s), .int .i64 (xh60.d.c), .int .i64 (xh60.d.t), .int .i64 (xh60.d.n), .int .i64 (xh60.d.b), .slice xh60.va xh60.d.V.length xh60.vc, .slice xh60.ma xh60.d.M.length xh60.mc] 32 from hx) rfl) Try.underlying24 rfl (by kernel_rfl)) B128 (fun an136 n136 => ?_)
      have e137 := n136.ne rfl (n135.ne rfl (n133.ne rfl (n113.ne rfl (n112.ne rfl (n111.ne rfl (n102.ne rfl (n100.ne rfl (n99.ne rfl (n98.ne rfl (n97.ne rfl e96))))))))))
      refine h_take (S := (SxB b64 #[.string (bs xh60.d.id), .int .i64 (xh60.d.s), .int .i64 (xh60.d.c), .int .i64 (xh60.d.t), .int .i64 (xh60.d.n), .int .i64 (xh60.d.b), .slice xh60.va xh60.d.V.length xh60.vc, .slice xh60.ma xh60.d.M.length xh60.mc] 32)) (i := 5) (fuel := 6) n136.ok rfl rfl rfl (by kernel_rfl) (by kernel_rfl) (by kernel_rfl) (fun _ _ _ _ _ h => h) (wn _ rfl) (fun x hx => o_fa (z := 2) e137 Try.underlying32 rfl (by kernel_rfl) rfl rfl) B128 (fun an138 n138 => ?_)
      refine h_take (S := (SxB b64 #[.string (bs xh60.d.id), .int .i64 (xh60.d.s), .int .i64 (xh60.d.c), .int .i64 (xh60.d.t), .int .i64 (xh60.d.n), .int .i64 (xh60.d.b), .slice xh60.va xh60.d.V.length xh60.vc, .slice xh60.ma xh60.d.M.length xh60.mc] 32)) (i := 6) (fuel := 5) n138.ok rfl rfl rfl (by kernel_rfl) (by kernel_rfl) (by kernel_rfl) (fun _ _ _ _ _ h => h) (wn _ rfl) (fun x hx => o_fa (z := 1) n138.at_ Try.underlying30 rfl (by kernel_rfl) rfl rfl) B128 (fun an139 n139 => ?_)
      refine h_take (S := (SxB b64 #[.string (bs xh60.d.id), .int .i64 (xh60.d.s), .int .i64 (xh60.d.c), .int .i64 (xh60.d.t), .int .i64 (xh60.d.n), .int .i64 (xh60.d.b), .slice xh60.va xh60.d.V.length xh60.vc, .slice xh60.ma xh60.d.M.length xh60.mc] 32)) (i := 7) (fuel := 4) n139.ok rfl rfl rfl (by kernel_rfl) (by kernel_rfl) (by kernel_rfl) (fun _ _ _ _ _ h => h) (wn _ rfl) (fun x hx => o_ld n139.at_ (Try.isAgg28 _) ((show Bk x b64 #[.string (bs xh60.d.id), .int .i64 (xh60.d.s), .int .i64 (xh60.d.c), .int .i64 (xh60.d.t), .int .i64 (xh60.d.n), .int .i64 (xh60.d.b), .slice xh60.va xh60.d.V.length xh60.vc, .slice xh60.ma xh60.d.M.length xh60.mc] 32 from hx).cell _ rfl)) B128 (fun an140 n140 => ?_)
      have e142 := n140.ne rfl (n139.ne rfl (n138.ne rfl n136.at_))
      obtain ⟨i141, i141a, i141b, i141c⟩ := info3_of (show (Try.prog.info? 24).map (fun i => (i.zero, i.size)) = some (some (.agg #[.int .i64 0, .int .i64 0]), 2) by kernel_rfl)
      refine h_sals (S := (SxB b64 #[.string (bs xh60.d.id), .int .i64 (xh60.d.s), .int .i64 (xh60.d.c), .int .i64 (xh60.d.t), .int .i64 (xh60.d.n), .int .i64 (xh60.d.b), .slice xh60.va xh60.d.V.length xh60.vc, .slice xh60.ma xh60.d.M.length xh60.mc] 32)) (i := 3) (fuel := 3) (cs := #[.int .i64 (xh60.d.s), .int .i64 (xh60.d.c)]) (by kernel_rfl) rfl n140.ok rfl (wn _ rfl) rfl (o_bs (vs := [(0, .agg #[.int .i64 (xh60.d.s), .int .i64 (xh60.d.c)])]) (by simp [e142, ev_const]) Try.underlying28 i141a i141b (by rw [i141c]; rfl) (by rw [i141c]; rfl) (by rw [i141c]; kernel_rfl)) (fun w_ g_ => Bk.gr B128 g_) (fun an143 w145 b144 W146 n143 => ?_)
      have l147 : b3 < b144 := by rw [W146.eq]; exact B126.lt
      have l148 : b23 < b144 := by rw [W146.eq]; exact B127.lt
      have l149 : b64 < b144 := by rw [W146.eq]; exact B128.lt
      have l150 : w.heap.size ≤ b144 := by rw [W146.eq]; exact G125.size
      have l151 : ∀ k, Value.ownBlock (.slice ra nD rc) = some k → k < b144 := fun k e => by rw [W146.eq]; exact ow_in O130 k e
      have l152 : ∀ k, Value.ownBlock (.slice ka2 nV2 kb2) = some k → k < b144 := fun k e => by rw [W146.eq]; exact ow_in O131 k e
      have G153 := G125.trans W146.gr
      have B154 := B126.gr W146.gr
      have B155 := B127.gr W146.gr
      have B156 := B128.gr W146.gr
      have z157 := Nat.le_trans z129 W146.gr.size
      have O158 := ow_gr O130 W146.gr
      have O159 := ow_gr O131 W146.gr
      have e160 := n143.ne rfl (n140.ne rfl (n139.ne rfl (n138.ne rfl (n136.ne rfl (n135.ne rfl n133.at_)))))
      obtain ⟨i161, i161a, i161b, i161c, i161d⟩ := info_of (show (Try.prog.info? 24).map (fun i => (i.zero, i.size, i.bytes)) = some (some (.agg #[.int .i64 0, .int .i64 0]), 2, 16) by kernel_rfl)
      refine h_app (S := SxB b64 #[.string (bs xh60.d.id), .int .i64 (xh60.d.s), .int .i64 (xh60.d.c), .int .i64 (xh60.d.t), .int .i64 (xh60.d.n), .int .i64 (xh60.d.b), .slice xh60.va xh60.d.V.length xh60.vc, .slice xh60.ma xh60.d.M.length xh60.mc] 32) (i := 4) (fuel := 2) (base := base) (n := nD) (xs := (flat (pI (List.take i (K.map VerI.d)) l))) (m := 1) (news := [.int .i64 xh60.d.s, .int .i64 xh60.d.c]) (by kernel_rfl) rfl n143.ok (wn _ rfl) rfl Try.underlying28 i161a i161b i161c i161d rfl (by omega) e160 O158 n143.at_ rfl (fun j u hu => by rw [add_n]; exact bk_part W146.bk (k := 0) rfl j u hu) (fun u hu => by simp at hu; rcases hu with rfl | rfl <;> rfl) (by simp only [maxLen]; omega) (by omega) z157 (fun w_ g_ => bk_grownT B156 O158 g_ (by decide)) (fun an162 w163 v164 O167 gg168 n162 => ?_)
      obtain ⟨a165, c166, rfl, c166l⟩ := ow_form O167
      have G169 := Gr.grown G153 gg168 (fun k e => Nat.le_trans l41 (ow_lt O158 k e))
      have B170 := B154.grown gg168 (ow_lt O158) l39
      have B171 := B155.grown gg168 (ow_lt O158) l40
      have B172 := B156.grown_ne gg168 l70
      have B173 := W146.bk.grown_ne gg168 l151
      have z174 := Nat.le_trans z157 gg168.size
      have O175 := ow_grown O159 O158 gg168 rfl
      obtain ⟨i176, i176a, i176b, i176c, i176d⟩ := info_of (show (Try.prog.info? 24).map (fun i => (i.zero, i.size, i.bytes)) = some (some (.agg #[.int .i64 0, .int .i64 0]), 2, 16) by kernel_rfl)
      refine h_appR (S := SxB b64 #[.string (bs xh60.d.id), .int .i64 (xh60.d.s), .int .i64 (xh60.d.c), .int .i64 (xh60.d.t), .int .i64 (xh60.d.n), .int .i64 (xh60.d.b), .slice xh60.va xh60.d.V.length xh60.vc, .slice xh60.ma xh60.d.M.length xh60.mc] 32) (i := 8) (fuel := 1) (base := base) (n := (nD + 1)) (xs := ((flat (pI (List.take i (K.map VerI.d)) l)) ++ [.int .i64 xh60.d.s, .int .i64 xh60.d.c])) (m := xh60.d.M.length) (news := flat xh60.d.M) (by kernel_rfl) rfl n162.ok (wn _ rfl) rfl rfl Try.underlying28 i176a i176b i176c i176d rfl (by omega) n162.at_ O167 (n162.ne rfl (n143.ne rfl n140.at_)) (rdc_M ((hm _ (List.mem_of_getElem? h60x)).gr G169)) (by simp only [maxLen]; omega) (by omega) z174 B172 (fun w_ g_ => bk_grownT B172 O167 g_ (by decide)) (fun an177 w178 v179 O182 gg183 n177 => ?_)
      obtain ⟨a180, c181, rfl, c181l⟩ := ow_form O182
      have G184 := Gr.grown G169 gg183 (fun k e => Nat.le_trans l41 (ow_lt O167 k e))
      have B185 := B170.grown gg183 (ow_lt O167) l39
      have B186 := B171.grown gg183 (ow_lt O167) l40
      have B187 := bk_grownT B172 O167 gg183 (by decide)
      have z188 := Nat.le_trans z174 gg183.size
      have O189 := ow_grown O175 O167 gg183 rfl
      refine h_take (S := (SxB b64 #[.string (bs xh60.d.id), .int .i64 (xh60.d.s), .int .i64 (xh60.d.c), .int .i64 (xh60.d.t), .int .i64 (xh60.d.n), .int .i64 (xh60.d.b), .slice xh60.va xh60.d.V.length xh60.vc, .slice xh60.ma xh60.d.M.length xh60.mc] 32)) (i := 9) (fuel := 0) n177.ok rfl rfl rfl (by kernel_rfl) (by kernel_rfl) (by kernel_rfl) (fun _ _ _ _ _ h => h) (wn _ rfl) (fun x hx => o_as n177.at_) B187 (fun an190 n190 => ?_)
      refine wpAnyH_done (by kernel_rfl) ?_ _
      refine ib_n ?_
      refine th_n (hK58 _ _ ?_)
      refine wp_region_lit ?_
      have e191 := n190.ne rfl (n177.ne rfl (n162.ne rfl (n143.ne rfl (n140.ne rfl (n139.ne rfl (n138.ne rfl (n136.ne rfl (n135.ne rfl (n133.ne rfl (n113.ne rfl (n112.ne rfl (n111.ne rfl (n102.ne rfl (n100.ne rfl (n99.ne rfl (n98.ne rfl (n97.ne rfl (n95.ne rfl (n91.ne rfl (n90.ne rfl (n88.ne rfl (n87.ne rfl (n63.ne rfl (n62.ne rfl (n61.ne rfl (n55.ne rfl s19I45))))))))))))))))))))))))))
      refine sv n190.ok rfl (wn _ rfl) rfl (o_add (r := ((i + 1 : Nat) : Int)) e191 ev_const (by omega) (by omega)) (fun an192 n192 => ?_)
      refine sv n192.ok rfl (wn _ rfl) rfl (o_mv n192.at_) (fun an193 n193 => ?_)
      refine wpList_nil ?_
      have e194 := n193.ne rfl (n192.ne rfl (n190.ne rfl (n177.ne rfl (n162.ne rfl (n143.ne rfl (n140.ne rfl (n139.ne rfl (n138.ne rfl (n136.ne rfl (n135.ne rfl (n133.ne rfl (n113.ne rfl (n112.ne rfl (n111.ne rfl (n102.ne rfl (n100.ne rfl (n99.ne rfl (n98.ne rfl (n97.ne rfl (n95.ne rfl (n91.ne rfl (n90.ne rfl e89))))))))))))))))))))))
      have e195 := n193.ne rfl (n192.ne rfl (n190.ne rfl (n177.ne rfl (n162.ne rfl (n143.ne rfl (n140.ne rfl (n139.ne rfl (n138.ne rfl (n136.ne rfl (n135.ne rfl (n133.ne rfl (n113.ne rfl (n112.ne rfl (n111.ne rfl (n102.ne rfl (n100.ne rfl (n99.ne rfl (n98.ne rfl (n97.ne rfl (n95.ne rfl (n91.ne rfl (n90.ne rfl (n88.ne rfl (n87.ne rfl (n63.ne rfl (n62.ne rfl (n61.ne rfl (n55.ne rfl s4I45))))))))))))))))))))))))))))
      have e196 := n193.ne rfl (n192.ne rfl (n190.ne rfl (n177.ne rfl (n162.ne rfl (n143.ne rfl (n140.ne rfl (n139.ne rfl (n138.ne rfl (n136.ne rfl (n135.ne rfl (n133.ne rfl (n113.ne rfl (n112.ne rfl (n111.ne rfl (n102.ne rfl (n100.ne rfl (n99.ne rfl (n98.ne rfl (n97.ne rfl (n95.ne rfl (n91.ne rfl (n90.ne rfl (n88.ne rfl (n87.ne rfl (n63.ne rfl (n62.ne rfl (n61.ne rfl (n55.ne rfl s5I45))))))))))))))))))))))))))))
      have e197 := n193.ne rfl (n192.ne rfl (n190.ne rfl (n177.ne rfl (n162.ne rfl (n143.ne rfl (n140.ne rfl (n139.ne rfl (n138.ne rfl (n136.ne rfl (n135.ne rfl (n133.ne rfl e114)))))))))))
      have e198 := n193.ne rfl (n192.ne rfl (n190.ne rfl (n177.ne rfl (n162.ne rfl (n143.ne rfl (n140.ne rfl (n139.ne rfl (n138.ne rfl (n136.ne rfl (n135.ne rfl (n133.ne rfl (n113.ne rfl (n112.ne rfl (n111.ne rfl (n102.ne rfl (n100.ne rfl (n99.ne rfl (n98.ne rfl (n97.ne rfl (n95.ne rfl (n91.ne rfl (n90.ne rfl (n88.ne rfl (n87.ne rfl (n63.ne rfl (n62.ne rfl (n61.ne rfl (n55.ne rfl s17I45))))))))))))))))))))))))))))
      have e199 := n193.ne rfl (n192.ne rfl (n190.ne rfl (n177.ne rfl (n162.ne rfl (n143.ne rfl (n140.ne rfl (n139.ne rfl (n138.ne rfl (n136.ne rfl (n135.ne rfl (n133.ne rfl (n113.ne rfl (n112.ne rfl (n111.ne rfl (n102.ne rfl (n100.ne rfl (n99.ne rfl (n98.ne rfl (n97.ne rfl (n95.ne rfl (n91.ne rfl (n90.ne rfl (n88.ne rfl (n87.ne rfl (n63.ne rfl (n62.ne rfl (n61.ne rfl (n55.ne rfl s18I45))))))))))))))))))))))))))))
      exact th_n (hKI45 _ _ _ (by omega) ⟨i + 1, ka2, nV2, kb2, kc2, kd2, a180, ((nD + 1) + xh60.d.M.length), c181, rfl, n193.ok, G184, e194, e195, e196, e197, (n193.ne rfl (n192.ne rfl n190.at_)), e198, e199, n193.at_, B185, B186, (by have h := O182; rw [pI_step (map_at h60x) c92, flat_app]; simpa [ndI, flat, List.append_assoc] using h), O189, z188, by omega, hN2⟩)
    · refine wp_cond_false ((n91.at_).trans (congrArg Value.bool (decide_eq_false c92))) ?_
      refine wp_skip ?_
      refine ib_n ?_
      refine th_n (hK58 _ _ ?_)
      refine wp_region_lit ?_
      have e200 := n91.ne rfl (n90.ne rfl (n88.ne rfl (n87.ne rfl (n63.ne rfl (n62.ne rfl (n61.ne rfl (n55.ne rfl s19I45)))))))
      refine sv n91.ok rfl (wn _ rfl) rfl (o_add (r := ((i + 1 : Nat) : Int)) e200 ev_const (by omega) (by omega)) (fun an201 n201 => ?_)
      refine sv n201.ok rfl (wn _ rfl) rfl (o_mv n201.at_) (fun an202 n202 => ?_)
      refine wpList_nil ?_
      have e203 := n202.ne rfl (n201.ne rfl (n91.ne rfl (n90.ne rfl e89)))
      have e204 := n202.ne rfl (n201.ne rfl (n91.ne rfl (n90.ne rfl (n88.ne rfl (n87.ne rfl (n63.ne rfl (n62.ne rfl (n61.ne rfl (n55.ne rfl s4I45)))))))))
      have e205 := n202.ne rfl (n201.ne rfl (n91.ne rfl (n90.ne rfl (n88.ne rfl (n87.ne rfl (n63.ne rfl (n62.ne rfl (n61.ne rfl (n55.ne rfl s5I45)))))))))
      have e206 := n202.ne rfl (n201.ne rfl (n91.ne rfl (n90.ne rfl (n88.ne rfl (n87.ne rfl (n63.ne rfl (n62.ne rfl (n61.ne rfl (n55.ne rfl s7I45)))))))))
      have e207 := n202.ne rfl (n201.ne rfl (n91.ne rfl (n90.ne rfl (n88.ne rfl (n87.ne rfl (n63.ne rfl (n62.ne rfl (n61.ne rfl (n55.ne rfl s8I45)))))))))
      have e208 := n202.ne rfl (n201.ne rfl (n91.ne rfl (n90.ne rfl (n88.ne rfl (n87.ne rfl (n63.ne rfl (n62.ne rfl (n61.ne rfl (n55.ne rfl s17I45)))))))))
      have e209 := n202.ne rfl (n201.ne rfl (n91.ne rfl (n90.ne rfl (n88.ne rfl (n87.ne rfl (n63.ne rfl (n62.ne rfl (n61.ne rfl (n55.ne rfl s18I45)))))))))
      exact th_n (hKI45 _ _ _ (by omega) ⟨i + 1, ka, nV, kb, kc, kd, ra, nD, rc, rfl, n202.ok, G80, e203, e204, e205, e206, e207, e208, e209, n202.at_, B81, B82, (by rw [pI_skip (map_at h60x) c92]; exact O84), (by rw [pV_skip (map_at h60x) c92]; exact O85), z83, by omega, by omega⟩)
  · refine wp_cond_false ((n55.at_).trans (congrArg Value.bool (decide_eq_false c57))) ?_
    refine wp_exit ?_
    refine th_x ?_
    refine th_x ?_
    refine ib_x ?_
    refine th_n (hK32 _ _ ?_)
    refine wp_seq_k (fun K210 hK210 => ?_)
    refine wp_region_lit ?_
    refine sv n55.ok rfl (wn _ rfl) rfl (o_ldR (n55.ne rfl s7I45) kb23I45 Try.underlying30 rfl (by kernel_rfl)) (fun an211 n211 => ?_)
    refine sv n211.ok rfl (wn _ rfl) rfl (o_mv (n211.ne rfl (n55.ne rfl s8I45))) (fun an212 n212 => ?_)
    refine sc n212.ok rfl (wn _ rfl) rfl (o_f2 Try.func44 rfl rfl rfl (n212.ne rfl n211.at_) n212.at_) ((by have h := addAll_n (pV (List.take i (K.map VerI.d)) l) (pI (List.take i (K.map VerI.d)) l) nV nD ka kc ra kb kd rc base (pV_pure _ _) (pI_in l (fun x hx => hok x (List.mem_of_mem_take hx))) (by have h2 := pI_len l (L := (List.take i (K.map VerI.d))) (fun x hx => hok x (List.mem_of_mem_take hx)); rw [List.length_take, List.length_map] at h2; have h3 : 61 * min i K.length ≤ 61 * 60 := Nat.mul_le_mul_left _ (by omega); omega) hNI45 w w53 GI45 l41 zbaseI45 odrI45 okvI45; rw [List.take_of_length_le (by rw [List.length_map]; omega)] at h; exact h)) ?_
    rintro _ w214 ⟨kk, rfl, hkk, g215⟩
    obtain ⟨pa, pn, pc, qa, qn, qc, rfl⟩ := knR_form hkk.rd
    refine ⟨_, rfl, fun an213 n213 => ?_⟩
    have G216 := Gr.grown GI45 g215 (fun k e => Nat.le_trans l41 (ow_lt odrI45 k e))
    have B217 := kb3I45.grown g215 (ow_lt odrI45) l39
    have B218 := kb23I45.grown g215 (ow_lt odrI45) l40
    have z219 := Nat.le_trans zbaseI45 g215.size
    have O220 := ow_grown okvI45 odrI45 g215 rfl
    refine sv n213.ok rfl (wn _ rfl) rfl (o_ex n213.at_ rfl) (fun an221 n221 => ?_)
    refine sv n221.ok rfl (wn _ rfl) rfl (o_ex (n221.ne rfl n213.at_) rfl) (fun an222 n222 => ?_)
    have e223 := n222.ne rfl (n221.ne rfl (n213.ne rfl (n212.ne rfl (n211.ne rfl (n55.ne rfl s4I45)))))
    refine ssR rfl (wn _ rfl) (o_stR e223 (n222.ne rfl n221.at_) B217 (by kernel_rfl) rfl (by simp [Value.oneCell'])) B217 (fun w224 u225 u225b => ?_)
    have G226 : Gr w w224 := Below.upd G216 l6 u225
    have B227 := B218.upd u225 (Nat.ne_of_gt l26)
    have z228 : base ≤ w224.heap.size := by rw [u225.size]; exact z219
    have O229 := ow_upd (World.ownsRow_nil w214 base 24 2) u225 l39
    have O230 := ow_upd O220 u225 l39
    have F231 := KnW.tks hkk (tks_upd u225 B217 (by decide))
    refine sv n222.ok rfl (wn _ rfl) rfl (o_as n222.at_) (fun an232 n232 => ?_)
    refine wpList_nil ?_
    refine th_n (hK210 _ _ ?_)
    refine wp_ret ?_
    exact ret2 n232.ok rfl (⟨_, _, (n232.ne rfl e223), ld_row u225b Try.underlying30 rfl (by kernel_rfl)⟩) (n232.at_) ⟨_, rfl, (F231).rd, G226⟩
end Go.Proofs.Ytoencnbpjjkjnaa

/- What is past of a thing in the store of what was told. -/
set_option linter.unusedVariables false
set_option linter.unusedSimpArgs false
namespace Rm
open Go Go.RowKit Gx
theorem mem_pF {L : List VerD} {id : List UInt8} {x : VerD} : x ∈ pF L id ↔ x ∈ L ∧ x.id = id := by
  unfold pF
  rw [List.mem_filter, decide_eq_true_eq]
theorem pD_of {L : List VerD} {id : List UInt8} {s c : Nat} (h : pD L id s c = true) : ∃ x ∈ L, x.id = id ∧ (dsV x s c = true ∨ (s = x.s.toNat ∧ c = x.c.toNat)) := by
  unfold pD addS at h
  rw [Bool.or_eq_true, decide_eq_true_eq] at h
  rcases h with h | h
  · unfold pV at h
    obtain ⟨x, hx, h1⟩ := List.any_eq_true.1 h
    obtain ⟨h2, h3⟩ := mem_pF.1 hx
    refine ⟨x, h2, h3, .inl ?_⟩
    unfold vD at h1
    unfold dsV
    rw [memB_iff] at h1 ⊢
    rcases h1 with h1 | h1
    · exact .inl h1
    · cases h1
  · unfold toN at h
    obtain ⟨d, hd, e⟩ := List.mem_map.1 h
    unfold pI at hd
    obtain ⟨x, hx, h1⟩ := List.mem_flatMap.1 hd
    obtain ⟨h2, h3⟩ := mem_pF.1 hx
    refine ⟨x, h2, h3, ?_⟩
    injection e with e1 e2
    rcases List.mem_cons.1 h1 with rfl | h1
    · exact .inr ⟨e1.symm, e2.symm⟩
    · refine .inl ?_
      unfold dsV
      rw [memB_iff]
      exact .inr (List.mem_map.2 ⟨d, h1, by rw [e1, e2]⟩)
theorem pD_has {L : List VerD} {id : List UInt8} {x : VerD} (hx : x ∈ L) (hid : x.id = id) : pD L id x.s.toNat x.c.toNat = true := by
  unfold pD addS
  rw [Bool.or_eq_true, decide_eq_true_eq]
  refine .inr ?_
  unfold toN
  refine List.mem_map.2 ⟨(x.s, x.c), ?_, rfl⟩
  unfold pI
  exact List.mem_flatMap.2 ⟨x, mem_pF.2 ⟨hx, hid⟩, List.mem_cons_self ..⟩
theorem pD_from {v : List Nat} {T L : List VerD} (hT : ToldV v T) (hL : ∀ x ∈ L, x ∈ T) {id : List UInt8} {s c : Nat} (h : pD L id s c = true) : ∃ y ∈ T, y.id = id ∧ y.s = (s : Int) ∧ y.c = (c : Int) := by
  obtain ⟨x, hx, hid, h1 | ⟨h1, h2⟩⟩ := pD_of h
  · obtain ⟨y, hy, e1, e2⟩ := hT.from_ x (hL x hx) s c h1
    exact ⟨y, hy, e1.trans hid, e2⟩
  · obtain ⟨a, b, e1, e2, -⟩ := hT.cnt x (hL x hx)
    exact ⟨x, hL x hx, hid, by omega, by omega⟩
theorem pD_few {v : List Nat} {T L : List VerD} (hT : ToldV v T) (hL : ∀ x ∈ L, x ∈ T) (id : List UInt8) (hv : cv v 0 + cv v 1 + cv v 2 + cv v 3 + cv v 4 ≤ 20) : (formM (pD L id)).length ≤ 60 :=
  form_sum (v := v) (fun s c hs hc q => by
    obtain ⟨y, hy, -, e1, e2⟩ := pD_from hT hL q
    obtain ⟨sy, cy, f1, f2, l1, l2, l3⟩ := hT.cnt y hy
    obtain rfl : sy = s := by omega
    obtain rfl : cy = c := by omega
    exact ⟨l2, l3⟩) (by omega)
/-- the document's three names -/
def idC (j : Nat) : List UInt8 := if j = 0 then [97] else if j = 1 then [98] else [99]
theorem idC_at (b j : Nat) (w : World) (t : TypeId) (hb : Bk w b #[.string (bs [97]), .string (bs [98]), .string (bs [99])] t) (hj : j < 3) : w.cell? ⟨b, 0 + j * 1, none⟩ = some (.string (bs (idC j))) := by
  have : j = 0 ∨ j = 1 ∨ j = 2 := by omega
  rcases this with rfl | rfl | rfl
  · exact hb.cell 0 rfl
  · exact hb.cell 1 rfl
  · exact hb.cell 2 rfl
end Rm
namespace Gx
open Go Go.RowKit Rm
section
variable {P : Program} {ev : Operand → Value} {d : Option Tmp} {ty : TypeId} {p : String} {af : Array Edge} {g : Option (Nat × Bool)} {w : World}
end
end Gx
namespace Go.Proofs.Ytoencnbpjjkjnaa
open Go.RowKit Rm Gx
theorem knR_formL {w : World} {k : Value} {V : List Int} {M : List (Int × Int)} (h : KnR w k V M) : ∃ a c a' c', k = .agg #[.slice a V.length c, .slice a' M.length c'] := by
  obtain ⟨vv, mv, rfl, ⟨a, c, rfl, -⟩, ⟨a', c', rfl, -⟩, -⟩ := h
  exact ⟨_, _, _, _, rfl⟩
end Go.Proofs.Ytoencnbpjjkjnaa

