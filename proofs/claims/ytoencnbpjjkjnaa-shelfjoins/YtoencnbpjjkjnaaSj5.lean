/- Joined: ShM, ShN, ConcatV, ShO, ConcatR, ShP. -/
import Derived.Test.YtoencnbpjjkjnaaSj4
import Derived.Lib.AppendZerosOnto
import Derived.Lib.AppendZeros
import Derived.Laws.AppendOwnNone
import Derived.SizedLaws
/- reedkeep.told. -/
set_option linter.unusedVariables false
set_option linter.unusedSimpArgs false
namespace Gx
open Go Go.RowKit Rm
section
variable {P : Program} {ev : Operand → Value} {d : Option Tmp} {ty : TypeId} {p : String} {af : Array Edge} {g : Option (Nat × Bool)} {w : World}
theorem o_shrI {t t' : TypeId} {x y : Operand} {i : Int} {n : Nat} (hx : ev x = .int .i64 i) (hy : ev y = .int .i64 (n : Int)) : ∃ r, (execOp ev (Oper.mk d (.binOp .shr t x y t') ty p af g)).run P w = .ok (.value (.int .i64 r)) w := by
  have h0 : ¬ ((n : Int) < 0) := by omega
  unfold execOp
  simp only [hx, hy, eqGuard, Sem.run_bind, Sem.run_pure, Result.andThen_ok]
  simp [binOp, Op.shift, go_sem, h0]
theorem o_andI {t t' : TypeId} {x y : Operand} {i j : Int} (hx : ev x = .int .i64 i) (hy : ev y = .int .i64 j) : ∃ r, (execOp ev (Oper.mk d (.binOp .and t x y t') ty p af g)).run P w = .ok (.value (.int .i64 r)) w := by
  unfold execOp
  simp only [hx, hy, eqGuard, Sem.run_bind, Sem.run_pure, Result.andThen_ok]
  simp [binOp, Op.intBits, go_sem]
end
end Gx
namespace Rm
open Go Go.RowKit Gx
theorem id_at (b j : Nat) (w : World) (t : TypeId) (hb : Bk w b #[.string (bs [97]), .string (bs [98])] t) (hj : j < 2) : w.cell? ⟨b, 0 + j * 1, none⟩ = some (.string (bs (idOf j))) := by
  have : j = 0 ∨ j = 1 := by omega
  rcases this with rfl | rfl
  · exact hb.cell 0 rfl
  · exact hb.cell 1 rfl
theorem ToldV.dot {v : List Nat} {T : List VerD} (hT : ToldV v T) (hv : ∀ s, s < 5 → cv v s ≤ 20) {x : VerD} (hx : x ∈ T) : 0 ≤ x.s ∧ x.s < 5 ∧ 0 ≤ x.c ∧ x.c < 1024 := by
  obtain ⟨s, c, h1, h2, h3, h4, h5⟩ := hT.cnt x hx
  have := hv s h3
  omega
theorem sum_set {v : List Nat} {s i : Nat} (hs : s < 5) (h : cv v 0 + cv v 1 + cv v 2 + cv v 3 + cv v 4 ≤ i) : cv (setC v s (cv v s + 1)) 0 + cv (setC v s (cv v s + 1)) 1 + cv (setC v s (cv v s + 1)) 2 + cv (setC v s (cv v s + 1)) 3 + cv (setC v s (cv v s + 1)) 4 ≤ i + 1 := by
  have h0 := cv_setC v s (cv v s + 1) 0 hs (by omega)
  have h1 := cv_setC v s (cv v s + 1) 1 hs (by omega)
  have h2 := cv_setC v s (cv v s + 1) 2 hs (by omega)
  have h3 := cv_setC v s (cv v s + 1) 3 hs (by omega)
  have h4 := cv_setC v s (cv v s + 1) 4 hs (by omega)
  have : s = 0 ∨ s = 1 ∨ s = 2 ∨ s = 3 ∨ s = 4 := by omega
  rcases this with rfl | rfl | rfl | rfl | rfl <;> simp_all <;> omega
theorem cv_sum {v : List Nat} {i : Nat} (h : cv v 0 + cv v 1 + cv v 2 + cv v 3 + cv v 4 ≤ i) : ∀ s, s < 5 → cv v s ≤ i := fun s hs => by
  have : s = 0 ∨ s = 1 ∨ s = 2 ∨ s = 3 ∨ s = 4 := by omega
  rcases this with rfl | rfl | rfl | rfl | rfl <;> omega
end Rm
namespace Go.Proofs.Ytoencnbpjjkjnaa
open Go.RowKit Rm Gx
/-- the document's All, where the set may be -/
theorem rallC (k : Value) (V : List Int) (M : List (Int × Int)) (w : World) (hk : KnR w k V M) (hc : chkK V M = 0) :
    Calls Try.prog 56 #[k] w fun e w' => e = .returned (.agg (wArr (xOf (memB (V.map Int.toNat) (M.map fun d => (d.1.toNat, d.2.toNat)))))) ∧ Gr w w' := by
  obtain ⟨v, m, rfl, rfl, ok, hl⟩ := chkK_zero hc
  rw [ints_nat, pairs_nat]
  refine (rall_any k v m w hk ok hl).mono ?_
  rintro e w' ⟨X, rfl, hX, hD, g⟩
  exact ⟨by rw [xOf_eq hX hD], g⟩
theorem rwithI (X : Nat → Nat) (s c : Int) (w : World) (hX : OkX X) (h1 : 0 ≤ s) (h2 : s < 5) (h3 : 0 ≤ c) (h4 : c < 1024) :
    Calls Try.prog 63 #[.agg (wArr X), .agg #[.int .i64 s, .int .i64 c]] w fun e w' => e = .returned (.agg (wArr (withX X s.toNat c.toNat))) ∧ Gr w w' := by
  obtain ⟨a, rfl⟩ : ∃ n : Nat, s = n := ⟨s.toNat, by omega⟩
  obtain ⟨b, rfl⟩ : ∃ n : Nat, c = n := ⟨c.toNat, by omega⟩
  have h := rwith_any X a b w hX (by omega) (by omega)
  rw [Int.toNat_natCast, Int.toNat_natCast]
  exact h
set_option maxHeartbeats 8000000 in
set_option maxRecDepth 100000 in
theorem told_k (va : Option Addr) (vc : Nat) (L : List (List Int)) (hvc : L.length ≤ vc) (w : World) (hL : L ≠ [] → ∃ b off, va = some ⟨b, off, none⟩ ∧ b < w.heap.size ∧ ∀ i x, L[i]? = some x → ∃ ua uc, w.cell? ⟨b, off + i * 1, none⟩ = some (.slice ua x.length uc) ∧ RdI1 w ua x) :
    Calls Try.prog 23 #[.slice va L.length vc] w fun e w' => ∃ (R : List VerI) (a : Option Addr) (c : Nat) (v : List Nat), e = .returned (.slice a R.length c) ∧ ToldV v (R.map VerI.d) ∧ (∀ s, s < 5 → cv v s ≤ 20) ∧ R.length ≤ 20 ∧ RdA encVr 8 w' a R ∧ MeansV w' R ∧ (R.length ≤ c ∧ (a = none → c = 0)) ∧ Gr w w' := by
  refine enter (N := 103) Try.func23 rfl rfl rfl (fun a0 ok0 h0 => ?_)
  have e0_0 : a0.eval (.tmp 0) = .slice va L.length vc := h0 0 _ rfl
  clear h0
  have G0 := Gr.refl w
  refine wp_seq_k (fun K1 hK1 => ?_)
  refine wp_region_lit ?_
  refine sv ok0 rfl (wn _ rfl) rfl (o_as ev_const) (fun an2 n2 => ?_)
  refine wpList_nil ?_
  refine th_n (hK1 _ _ ?_)
  refine wp_seq_k (fun K3 hK3 => ?_)
  refine wp_region_lit ?_
  refine sv n2.ok rfl (wn _ rfl) rfl (o_as ev_const) (fun an4 n4 => ?_)
  refine wpList_nil ?_
  refine th_n (hK3 _ _ ?_)
  refine wp_seq_k (fun K5 hK5 => ?_)
  refine wp_region_lit ?_
  refine sal (cs := cArr []) n4.ok rfl (wn _ rfl) rfl (o_al (z := .agg (cArr [])) five_zero) (fun an6 w8 b7 W9 n6 => ?_)
  have l10 : w.heap.size ≤ b7 := by rw [W9.eq]; exact G0.size
  have G11 := G0.trans W9.gr
  refine wpList_nil ?_
  refine th_n (hK5 _ _ ?_)
  refine wp_seq_k (fun K12 hK12 => ?_)
  refine wp_seq_k (fun K13 hK13 => ?_)
  refine wp_region_lit ?_
  have e14 := n6.ne rfl (n4.ne rfl (n2.ne rfl e0_0))
  refine sv n6.ok rfl (wn _ rfl) rfl (o_mv e14) (fun an15 n15 => ?_)
  refine sv n15.ok rfl (wn _ rfl) rfl (o_mv (n15.ne rfl e14)) (fun an16 n16 => ?_)
  refine sv n16.ok rfl (wn _ rfl) rfl (o_len n16.at_ Try.underlying45) (fun an17 n17 => ?_)
  refine sv n17.ok rfl (wn _ rfl) rfl (o_min n17.at_ ev_const (nmin_int _ _)) (fun an18 n18 => ?_)
  have e19 := n18.ne rfl (n17.ne rfl (n16.ne rfl n15.at_))
  refine sv n18.ok rfl (wn _ rfl) rfl (o_cut (k := min (L.length) (20)) (s := 1) e19 n18.at_ Try.underlying45 (by kernel_rfl) (by omega)) (fun an20 n20 => ?_)
  refine sv n20.ok rfl (wn _ rfl) rfl (o_len n20.at_ Try.underlying45) (fun an21 n21 => ?_)
  refine sv n21.ok rfl (wn _ rfl) rfl (o_mv ev_const) (fun an22 n22 => ?_)
  refine wpList_nil ?_
  refine th_n (hK13 _ _ ?_)
  refine wp_block ?_
  obtain ⟨base, z23⟩ : ∃ n, n = w8.heap.size := ⟨_, rfl⟩
  have l24 : b7 < base := by rw [z23]; exact W9.bk.lt
  have l25 : w.heap.size ≤ base := by rw [z23]; exact G11.size
  have z26 : base ≤ w8.heap.size := Nat.le_of_eq z23
  have O27 := World.ownsRow_nil w8 base 32 8
  have hps : OwnsVr base w8 ([] : List VerI) := fun x hx => by cases hx
  have e29 := n22.ne rfl (n21.ne rfl (n20.ne rfl (n18.ne rfl (n17.ne rfl (n16.ne rfl (n15.ne rfl (n6.ne rfl (n4.ne rfl n2.at_))))))))
  have e30 := n22.ne rfl (n21.ne rfl (n20.ne rfl (n18.ne rfl (n17.ne rfl (n16.ne rfl (n15.ne rfl (n6.ne rfl n4.at_)))))))
  have e31 := n22.ne rfl (n21.ne rfl (n20.ne rfl (n18.ne rfl (n17.ne rfl (n16.ne rfl (n15.ne rfl n6.at_))))))
  refine lp (fun (nL : Nat) (aL : Act) (wL : World) => ∃ i : Nat, ∃ R : List VerI, ∃ v : List Nat, ∃ ra : Option Addr, ∃ rc : Nat, nL = min L.length 20 - i ∧ Ok 103 aL ∧ Gr w wL ∧ (aL.eval (.tmp 2) = .slice none 0 0) ∧ (aL.eval (.tmp 3) = .slice ra (R.length) rc) ∧ (aL.eval (.tmp 4) = .pointer (some ⟨b7, 0, none⟩)) ∧ (aL.eval (.tmp 16) = .slice va (min (L.length) (20)) vc) ∧ (aL.eval (.tmp 17) = .int .i64 ((min (L.length) (20) : Nat) : Int)) ∧ (aL.eval (.tmp 18) = .int .i64 (i : Int)) ∧ (Bk wL b7 (cArr v) 97) ∧ (OwnsVr base wL R) ∧ (World.ownsRow wL base 32 8 (.slice ra (R.length) rc) (R.length) ((flatE encVr R))) ∧ (base ≤ wL.heap.size) ∧ (i ≤ min L.length 20) ∧ (ToldV v (R.map VerI.d)) ∧ (cv v 0 + cv v 1 + cv v 2 + cv v 3 + cv v 4 ≤ i) ∧ (R.length ≤ i)) _ ⟨0, [], [], none, 0, rfl, n22.ok, G11, e29, e30, e31, (n22.ne rfl (n21.ne rfl n20.at_)), (n22.ne rfl n21.at_), n22.at_, W9.bk, hps, O27, z26, by omega, ToldV.nil, by simp [cv], by simp⟩ ?_
  rintro m32 aI28 w34 ⟨i, R, v, ra, rc, hmI28, okI28, GI28, s2I28, s3I28, s4I28, s16I28, s17I28, s18I28, kb7I28, fpsI28, orI28, zbaseI28, hiI28, hTI28, hsI28, hrI28⟩ KI28 hKI28
  have hvI28 : ∀ s, s < 5 → cv v s ≤ 20 := fun s hs => Nat.le_trans (cv_sum hsI28 s hs) (by omega)
  refine wp_seq_k (fun K35 hK35 => ?_)
  refine wp_region_lit ?_
  refine sv okI28 rfl (wn _ rfl) rfl (o_ltI s18I28 s17I28) (fun an36 n36 => ?_)
  refine wpList_nil ?_
  refine th_n (hK35 _ _ ?_)
  refine wp_seq_k (fun K37 hK37 => ?_)
  by_cases c38 : (i : Int) < ((min (L.length) (20) : Nat) : Int)
  · refine wp_cond_true ((n36.at_).trans (congrArg Value.bool (decide_eq_true c38))) ?_
    refine wp_skip ?_
    refine th_n (hK37 _ _ ?_)
    refine wp_seq_k (fun K39 hK39 => ?_)
    refine wp_block ?_
    refine wp_seq_k (fun K40 hK40 => ?_)
    refine wp_region_lit ?_
    have h41l : i < List.length L := by omega
    obtain ⟨bh41, fh41, h41a, h41b, h41c⟩ := hL (ne_nil_of_lt h41l)
    obtain ⟨xh41, h41x⟩ : ∃ x, L[i]? = some x := ⟨_, List.getElem?_eq_getElem h41l⟩
    obtain ⟨uh41, vh41, h41d, h41e⟩ := h41c _ _ h41x
    refine sv n36.ok rfl (wn _ rfl) rfl (o_iaV (i := i) (s := 1) h41a (n36.ne rfl s16I28) (n36.ne rfl s18I28) Try.underlying45 (by kernel_rfl) (by omega)) (fun an42 n42 => ?_)
    refine sv n42.ok rfl (wn _ rfl) rfl (o_ld n42.at_ (Try.isAgg27 _) ((Below.cell GI28 h41b).trans h41d)) (fun an43 n43 => ?_)
    refine sv n43.ok rfl (wn _ rfl) rfl (o_as n43.at_) (fun an44 n44 => ?_)
    refine wpList_nil ?_
    refine th_n (hK40 _ _ ?_)
    refine wp_seq_k (fun K45 hK45 => ?_)
    refine wp_seq_k (fun K46 hK46 => ?_)
    refine wp_region_lit ?_
    refine sv n44.ok rfl (wn _ rfl) rfl (o_mv n44.at_) (fun an47 n47 => ?_)
    refine sv n47.ok rfl (wn _ rfl) rfl (o_len n47.at_ Try.underlying27) (fun an48 n48 => ?_)
    refine sv n48.ok rfl (wn _ rfl) rfl (o_ltI n48.at_ ev_const) (fun an49 n49 => ?_)
    refine wpList_nil ?_
    refine th_n (hK46 _ _ ?_)
    by_cases c50 : ((xh41.length : Nat) : Int) < 3
    · refine wp_cond_true ((n49.at_).trans (congrArg Value.bool (decide_eq_true c50))) ?_
      refine wp_exit ?_
      refine th_x ?_
      refine ib_x ?_
      refine th_n (hK39 _ _ ?_)
      refine wp_region_lit ?_
      have e51 := n49.ne rfl (n48.ne rfl (n47.ne rfl (n44.ne rfl (n43.ne rfl (n42.ne rfl (n36.ne rfl s18I28))))))
      refine sv n49.ok rfl (wn _ rfl) rfl (o_add (r := ((i + 1 : Nat) : Int)) e51 ev_const (by omega) (by omega)) (fun an52 n52 => ?_)
      refine sv n52.ok rfl (wn _ rfl) rfl (o_mv n52.at_) (fun an53 n53 => ?_)
      refine wpList_nil ?_
      have e54 := n53.ne rfl (n52.ne rfl (n49.ne rfl (n48.ne rfl (n47.ne rfl (n44.ne rfl (n43.ne rfl (n42.ne rfl (n36.ne rfl s2I28))))))))
      have e55 := n53.ne rfl (n52.ne rfl (n49.ne rfl (n48.ne rfl (n47.ne rfl (n44.ne rfl (n43.ne rfl (n42.ne rfl (n36.ne rfl s3I28))))))))
      have e56 := n53.ne rfl (n52.ne rfl (n49.ne rfl (n48.ne rfl (n47.ne rfl (n44.ne rfl (n43.ne rfl (n42.ne rfl (n36.ne rfl s4I28))))))))
      have e57 := n53.ne rfl (n52.ne rfl (n49.ne rfl (n48.ne rfl (n47.ne rfl (n44.ne rfl (n43.ne rfl (n42.ne rfl (n36.ne rfl s16I28))))))))
      have e58 := n53.ne rfl (n52.ne rfl (n49.ne rfl (n48.ne rfl (n47.ne rfl (n44.ne rfl (n43.ne rfl (n42.ne rfl (n36.ne rfl s17I28))))))))
      exact th_n (hKI28 _ _ _ (by omega) ⟨i + 1, R, v, ra, rc, rfl, n53.ok, GI28, e54, e55, e56, e57, e58, n53.at_, kb7I28, fpsI28, orI28, zbaseI28, by omega, by omega, by omega, by omega⟩)
    · refine wp_cond_false ((n49.at_).trans (congrArg Value.bool (decide_eq_false c50))) ?_
      refine wp_skip ?_
      refine th_n (hK45 _ _ ?_)
      refine wp_seq_k (fun K59 hK59 => ?_)
      refine wp_region_lit ?_
      have e60 := n49.ne rfl (n48.ne rfl (n47.ne rfl n44.at_))
      refine sv n49.ok rfl (wn _ rfl) rfl (o_mv e60) (fun an61 n61 => ?_)
      have h62l : 0 < List.length xh41 := by omega
      obtain ⟨bh62, fh62, h62a, h62b, h62c⟩ := h41e (ne_nil_of_lt h62l)
      obtain ⟨xh62, h62x⟩ : ∃ x, xh41[0]? = some x := ⟨_, List.getElem?_eq_getElem h62l⟩
      refine sv n61.ok rfl (wn _ rfl) rfl (o_iaV (i := 0) (s := 1) h62a n61.at_ ev_const Try.underlying27 (by kernel_rfl) h62l) (fun an63 n63 => ?_)
      refine sv n63.ok rfl (wn _ rfl) rfl (o_ld n63.at_ (Try.isAgg3 _) ((Below.cell GI28 h62b).trans (h62c _ _ h62x))) (fun an64 n64 => ?_)
      have hw65 := wi_lt xh62 5 (by omega)
      have hvb := hvI28 _ hw65
      refine sc n64.ok rfl (wn _ rfl) rfl (o_f2 Try.func24 rfl rfl rfl n64.at_ ev_const) (kwithin_any xh62 5 (by omega) (by omega) w34) ?_
      rintro _ w67 ⟨rfl, g68⟩
      refine ⟨_, rfl, fun an66 n66 => ?_⟩
      have G69 := GI28.trans g68
      have B70 := kb7I28.gr g68
      have z71 := Nat.le_trans zbaseI28 g68.size
      have O72 := ow_gr orI28 g68
      have F73 := fpsI28.tk (tks_gr g68)
      refine sv n66.ok rfl (wn _ rfl) rfl (o_as n66.at_) (fun an74 n74 => ?_)
      refine wpList_nil ?_
      refine th_n (hK59 _ _ ?_)
      refine wp_seq_k (fun K75 hK75 => ?_)
      refine wp_region_lit ?_
      refine sv n74.ok rfl (wn _ rfl) rfl (o_mv n74.at_) (fun an76 n76 => ?_)
      have e77 := n76.ne rfl (n74.ne rfl (n66.ne rfl (n64.ne rfl (n63.ne rfl (n61.ne rfl (n49.ne rfl (n48.ne rfl (n47.ne rfl (n44.ne rfl (n43.ne rfl (n42.ne rfl (n36.ne rfl s4I28))))))))))))
      refine sv n76.ok rfl (wn _ rfl) rfl (o_iaA (i := wi xh62 5) (s := 1) e77 n76.at_ Try.underlying97 (by kernel_rfl) (by omega)) (fun an78 n78 => ?_)
      refine sv n78.ok rfl (wn _ rfl) rfl (o_ld n78.at_ (Try.isAgg3 _) (B70.cell _ (five_get (by omega)))) (fun an79 n79 => ?_)
      refine sv n79.ok rfl (wn _ rfl) rfl (o_add (r := ((((cv v (wi xh62 5))) + 1 : Nat) : Int)) n79.at_ ev_const (by omega) (by omega)) (fun an80 n80 => ?_)
      have e81 := n80.ne rfl (n79.ne rfl (n78.ne rfl e77))
      have e82 := n80.ne rfl (n79.ne rfl (n78.ne rfl n76.at_))
      refine sv n80.ok rfl (wn _ rfl) rfl (o_iaA (i := wi xh62 5) (s := 1) e81 e82 Try.underlying97 (by kernel_rfl) (by omega)) (fun an83 n83 => ?_)
      refine ssC rfl (wn _ rfl) (o_st n83.at_ (n83.ne rfl n80.at_) B70 (five_get (by omega)) (by kernel_rfl) rfl) B70 (fun w84 u85 u85b => ?_)
      have G86 : Gr w w84 := Below.upd G69 l10 u85
      have z87 : base ≤ w84.heap.size := by rw [u85.size]; exact z71
      have O88 := ow_upd O72 u85 l24
      have F89 := F73.tk (tks_upd u85 B70 (by decide))
      have B90 : Bk w84 b7 (cArr (setC v (wi xh62 5) (((cv v (wi xh62 5))) + 1))) 97 := (by have h := u85b; rw [show 0 + (wi xh62 5) * 1 = (wi xh62 5) by omega, cArr_setC _ _ _ (by omega)] at h; exact h)
      refine wpList_nil ?_
      refine th_n (hK75 _ _ ?_)
      refine wp_seq_k (fun K91 hK91 => ?_)
      refine reg_start (N := 103) (m := 27) (by kernel_rfl) (fun R920 => ?_)
      have R921 := R920.snoc (n' := 1) rfl (fun vJ wJ => ∃ b94 : Nat, vJ = .slice (some ⟨b94, 0, none⟩) 2 2 ∧ w84.heap.size ≤ b94 ∧ Bk wJ b94 #[.string (bs [97]), .string (bs [98])] 9) rfl (fun _ _ _ g ⟨b, h1, h2, h3⟩ => ⟨b, h1, h2, h3.gr g⟩) (fun aS wS pS => by
          obtain ⟨i93, i93a, i93b, i93c⟩ := info3_of (show (Try.prog.info? 9).map (fun i => (i.zero, i.size)) = some (some (.string (bs [])), 1) by kernel_rfl)
          exact Does.val (wn _ rfl) (o_bs (vs := [(0, .string (bs [97])), (1, .string (bs [98]))]) (by simp [ev_const, bs]) Try.underlying58 i93a i93b (by rw [i93c]; rfl) (by rw [i93c]; rfl) (by rw [i93c]; kernel_rfl)) ((Gr.refl _).alloc _) ⟨_, rfl, pS.gr.size, (New.mk' _ _ _).bk⟩ rfl)
      have e95 := n83.ne rfl (n80.ne rfl (n79.ne rfl (n78.ne rfl (n76.ne rfl (n74.ne rfl (n66.ne rfl (n64.ne rfl (n63.ne rfl (n61.ne rfl e60)))))))))
      have R922 := R921.snoc (n' := 2) rfl (fun vJ _ => vJ = .slice uh41 xh41.length vh41) rfl (fun _ _ _ _ h => h) (fun aS wS pS => by
          exact Does.val (wn _ rfl) (o_mv ((pS.old 6 rfl).trans e95)) (Gr.refl _) rfl rfl)
      have h96l : 1 < List.length xh41 := by omega
      obtain ⟨bh96, fh96, h96a, h96b, h96c⟩ := h41e (ne_nil_of_lt h96l)
      obtain ⟨xh96, h96x⟩ : ∃ x, xh41[1]? = some x := ⟨_, List.getElem?_eq_getElem h96l⟩
      have R923 := R922.snoc (n' := 3) rfl (fun vJ _ => vJ = .pointer (some ⟨bh96, fh96 + 1 * 1, none⟩)) rfl (fun _ _ _ _ h => h) (fun aS wS pS => by
          have eR92_1 : aS.eval (.tmp 35) = .slice uh41 xh41.length vh41 := pS.pre 1 rfl
          exact Does.val (wn _ rfl) (o_iaV (i := 1) (s := 1) h96a (eR92_1) ev_const Try.underlying27 (by kernel_rfl) h96l) (Gr.refl _) rfl rfl)
      have R924 := R923.snoc (n' := 4) rfl (fun vJ _ => vJ = .int .i64 (xh96)) rfl (fun _ _ _ _ h => h) (fun aS wS pS => by
          have eR92_2 : aS.eval (.tmp 36) = .pointer (some ⟨bh96, fh96 + 1 * 1, none⟩) := pS.pre 2 rfl
          exact Does.val (wn _ rfl) (o_ld (eR92_2) (Try.isAgg3 _) ((Below.cell (G86.trans (gr_drew pS.gr)) h96b).trans (h96c _ _ h96x))) (Gr.refl _) rfl rfl)
      have hw97 := wi_lt xh96 2 (by omega)
      have R925 := R924.snoc (n' := 5) rfl (fun vJ _ => vJ = .int .i64 ((wi xh96 2 : Nat) : Int)) rfl (fun _ _ _ _ h => h) (fun aS wS pS => by
          have eR92_3 : aS.eval (.tmp 37) = .int .i64 (xh96) := pS.pre 3 rfl
          exact Does.call (wn _ rfl) (o_f2 Try.func24 rfl rfl rfl (eR92_3) ev_const) (kwithin_any xh96 2 (by omega) (by omega) wS) (by rintro _ w2 ⟨rfl, g⟩; exact ⟨_, rfl, g, rfl⟩) rfl)
      have R926 := R925.snoc (n' := 6) rfl (fun vJ wJ => ∃ (b94 : Nat), vJ = .pointer (some ⟨b94, 0 + (wi xh96 2) * 1, none⟩) ∧ (w84.heap.size ≤ b94) ∧ (Bk wJ b94 #[.string (bs [97]), .string (bs [98])] 9)) rfl (fun _ _ _ g ⟨b94, h, q0, q1⟩ => ⟨b94, h, q0, q1.gr g⟩) (fun aS wS pS => by
          obtain ⟨b94, eR92_0, geb94, bkb94⟩ := pS.pre 0 rfl
          have eR92_0 : aS.eval (.tmp 34) = .slice (some ⟨b94, 0, none⟩) 2 2 := eR92_0
          have eR92_4 : aS.eval (.tmp 38) = .int .i64 ((wi xh96 2 : Nat) : Int) := pS.pre 4 rfl
          exact Does.val (wn _ rfl) (o_ia (i := wi xh96 2) (s := 1) (eR92_0) (eR92_4) Try.underlying58 (by kernel_rfl) (by omega)) (Gr.refl _) ⟨b94, rfl, geb94, bkb94⟩ rfl)
      have R927 := R926.snoc (n' := 7) rfl (fun vJ _ => vJ = .string (bs (idOf (wi xh96 2)))) rfl (fun _ _ _ _ h => h) (fun aS wS pS => by
          obtain ⟨b94, eR92_5, geb94, bkb94⟩ := pS.pre 5 rfl
          have eR92_5 : aS.eval (.tmp 39) = .pointer (some ⟨b94, 0 + (wi xh96 2) * 1, none⟩) := eR92_5
          exact Does.val (wn _ rfl) (o_ld (eR92_5) (Try.isAgg9 _) (id_at _ _ _ _ bkb94 (by omega))) (Gr.refl _) rfl rfl)
      have e98 := n83.ne rfl (n80.ne rfl (n79.ne rfl (n78.ne rfl (n76.ne rfl n74.at_))))
      have R928 := R927.snoc (n' := 8) rfl (fun vJ _ => vJ = .int .i64 ((wi xh62 5 : Nat) : Int)) rfl (fun _ _ _ _ h => h) (fun aS wS pS => by
          exact Does.val (wn _ rfl) (o_mv ((pS.old 7 rfl).trans e98)) (Gr.refl _) rfl rfl)
      have R929 := R928.snoc (n' := 9) rfl (fun vJ _ => vJ = .int .i64 ((wi xh62 5 : Nat) : Int)) rfl (fun _ _ _ _ h => h) (fun aS wS pS => by
          exact Does.val (wn _ rfl) (o_mv ((pS.old 7 rfl).trans e98)) (Gr.refl _) rfl rfl)
      have R9210 := R929.snoc (n' := 10) rfl (fun vJ _ => vJ = .pointer (some ⟨b7, 0 + (wi xh62 5) * 1, none⟩)) rfl (fun _ _ _ _ h => h) (fun aS wS pS => by
          have eR92_8 : aS.eval (.tmp 42) = .int .i64 ((wi xh62 5 : Nat) : Int) := pS.pre 8 rfl
          exact Does.val (wn _ rfl) (o_iaA (i := wi xh62 5) (s := 1) ((pS.old 4 rfl).trans (n83.ne rfl e81)) (eR92_8) Try.underlying97 (by kernel_rfl) (by omega)) (Gr.refl _) rfl rfl)
      have R9211 := R9210.snoc (n' := 11) rfl (fun vJ _ => vJ = .int .i64 (((cv (setC v (wi xh62 5) (((cv v (wi xh62 5))) + 1)) (wi xh62 5)) : Nat) : Int)) rfl (fun _ _ _ _ h => h) (fun aS wS pS => by
          have eR92_9 : aS.eval (.tmp 43) = .pointer (some ⟨b7, 0 + (wi xh62 5) * 1, none⟩) := pS.pre 9 rfl
          exact Does.val (wn _ rfl) (o_ld (eR92_9) (Try.isAgg3 _) ((Bk.gr B90 (gr_drew pS.gr)).cell _ (five_get (by omega)))) (Gr.refl _) rfl rfl)
      have R9212 := R9211.snoc (n' := 12) rfl (fun vJ _ => vJ = .agg #[.int .i64 ((wi xh62 5 : Nat) : Int), .int .i64 (((cv (setC v (wi xh62 5) (((cv v (wi xh62 5))) + 1)) (wi xh62 5)) : Nat) : Int)]) rfl (fun _ _ _ _ h => h) (fun aS wS pS => by
          have eR92_7 : aS.eval (.tmp 41) = .int .i64 ((wi xh62 5 : Nat) : Int) := pS.pre 7 rfl
          have eR92_10 : aS.eval (.tmp 44) = .int .i64 (((cv (setC v (wi xh62 5) (((cv v (wi xh62 5))) + 1)) (wi xh62 5)) : Nat) : Int) := pS.pre 10 rfl
          exact Does.val (wn _ rfl) (o_bd (cells := #[.int .i64 ((wi xh62 5 : Nat) : Int), .int .i64 (((cv (setC v (wi xh62 5) (((cv v (wi xh62 5))) + 1)) (wi xh62 5)) : Nat) : Int)]) (vs := [(0, .int .i64 ((wi xh62 5 : Nat) : Int)), (1, .int .i64 (((cv (setC v (wi xh62 5) (((cv v (wi xh62 5))) + 1)) (wi xh62 5)) : Nat) : Int))]) (by simp [(eR92_7), (eR92_10), ev_const]) (by kernel_rfl)) (Gr.refl _) rfl rfl)
      have R9213 := R9212.snoc (n' := 13) rfl (fun vJ _ => vJ = .slice uh41 xh41.length vh41) rfl (fun _ _ _ _ h => h) (fun aS wS pS => by
          exact Does.val (wn _ rfl) (o_mv ((pS.old 6 rfl).trans e95)) (Gr.refl _) rfl rfl)
      have h99l : 2 < List.length xh41 := by omega
      obtain ⟨bh99, fh99, h99a, h99b, h99c⟩ := h41e (ne_nil_of_lt h99l)
      obtain ⟨xh99, h99x⟩ : ∃ x, xh41[2]? = some x := ⟨_, List.getElem?_eq_getElem h99l⟩
      have R9214 := R9213.snoc (n' := 14) rfl (fun vJ _ => vJ = .pointer (some ⟨bh99, fh99 + 2 * 1, none⟩)) rfl (fun _ _ _ _ h => h) (fun aS wS pS => by
          have eR92_12 : aS.eval (.tmp 46) = .slice uh41 xh41.length vh41 := pS.pre 12 rfl
          exact Does.val (wn _ rfl) (o_iaV (i := 2) (s := 1) h99a (eR92_12) ev_const Try.underlying27 (by kernel_rfl) h99l) (Gr.refl _) rfl rfl)
      have R9215 := R9214.snoc (n' := 15) rfl (fun vJ _ => vJ = .int .i64 (xh99)) rfl (fun _ _ _ _ h => h) (fun aS wS pS => by
          have eR92_13 : aS.eval (.tmp 47) = .pointer (some ⟨bh99, fh99 + 2 * 1, none⟩) := pS.pre 13 rfl
          exact Does.val (wn _ rfl) (o_ld (eR92_13) (Try.isAgg3 _) ((Below.cell (G86.trans (gr_drew pS.gr)) h99b).trans (h99c _ _ h99x))) (Gr.refl _) rfl rfl)
      have hw100 := wi_lt xh99 16 (by omega)
      have R9216 := R9215.snoc (n' := 16) rfl (fun vJ _ => vJ = .int .i64 ((wi xh99 16 : Nat) : Int)) rfl (fun _ _ _ _ h => h) (fun aS wS pS => by
          have eR92_14 : aS.eval (.tmp 48) = .int .i64 (xh99) := pS.pre 14 rfl
          exact Does.call (wn _ rfl) (o_f2 Try.func24 rfl rfl rfl (eR92_14) ev_const) (kwithin_any xh99 16 (by omega) (by omega) wS) (by rintro _ w2 ⟨rfl, g⟩; exact ⟨_, rfl, g, rfl⟩) rfl)
      have R9217 := R9216.snoc (n' := 17) rfl (fun vJ _ => vJ = .slice uh41 xh41.length vh41) rfl (fun _ _ _ _ h => h) (fun aS wS pS => by
          exact Does.val (wn _ rfl) (o_mv ((pS.old 6 rfl).trans e95)) (Gr.refl _) rfl rfl)
      have h101l : 1 < List.length xh41 := by omega
      obtain ⟨bh101, fh101, h101a, h101b, h101c⟩ := h41e (ne_nil_of_lt h101l)
      obtain ⟨xh101, h101x⟩ : ∃ x, xh41[1]? = some x := ⟨_, List.getElem?_eq_getElem h101l⟩
      have R9218 := R9217.snoc (n' := 18) rfl (fun vJ _ => vJ = .pointer (some ⟨bh101, fh101 + 1 * 1, none⟩)) rfl (fun _ _ _ _ h => h) (fun aS wS pS => by
          have eR92_16 : aS.eval (.tmp 50) = .slice uh41 xh41.length vh41 := pS.pre 16 rfl
          exact Does.val (wn _ rfl) (o_iaV (i := 1) (s := 1) h101a (eR92_16) ev_const Try.underlying27 (by kernel_rfl) h101l) (Gr.refl _) rfl rfl)
      have R9219 := R9218.snoc (n' := 19) rfl (fun vJ _ => vJ = .int .i64 (xh101)) rfl (fun _ _ _ _ h => h) (fun aS wS pS => by
          have eR92_17 : aS.eval (.tmp 51) = .pointer (some ⟨bh101, fh101 + 1 * 1, none⟩) := pS.pre 17 rfl
          exact Does.val (wn _ rfl) (o_ld (eR92_17) (Try.isAgg3 _) ((Below.cell (G86.trans (gr_drew pS.gr)) h101b).trans (h101c _ _ h101x))) (Gr.refl _) rfl rfl)
      have hw102 := wi_lt xh101 32 (by omega)
      have R9220 := R9219.snoc (n' := 20) rfl (fun vJ _ => vJ = .int .i64 ((wi xh101 32 : Nat) : Int)) rfl (fun _ _ _ _ h => h) (fun aS wS pS => by
          have eR92_18 : aS.eval (.tmp 52) = .int .i64 (xh101) := pS.pre 18 rfl
          exact Does.call (wn _ rfl) (o_f2 Try.func24 rfl rfl rfl (eR92_18) ev_const) (kwithin_any xh101 32 (by omega) (by omega) wS) (by rintro _ w2 ⟨rfl, g⟩; exact ⟨_, rfl, g, rfl⟩) rfl)
      have R9221 := R9220.snoc (n' := 21) rfl (fun vJ _ => vJ = .agg #[.int .i64 ((wi xh99 16 : Nat) : Int), .int .i64 ((wi xh101 32 : Nat) : Int)]) rfl (fun _ _ _ _ h => h) (fun aS wS pS => by
          have eR92_15 : aS.eval (.tmp 49) = .int .i64 ((wi xh99 16 : Nat) : Int) := pS.pre 15 rfl
          have eR92_19 : aS.eval (.tmp 53) = .int .i64 ((wi xh101 32 : Nat) : Int) := pS.pre 19 rfl
          exact Does.val (wn _ rfl) (o_bd (cells := #[.int .i64 ((wi xh99 16 : Nat) : Int), .int .i64 ((wi xh101 32 : Nat) : Int)]) (vs := [(0, .int .i64 ((wi xh99 16 : Nat) : Int)), (1, .int .i64 ((wi xh101 32 : Nat) : Int))]) (by simp [(eR92_15), (eR92_19), ev_const]) (by kernel_rfl)) (Gr.refl _) rfl rfl)
      have R9222 := R9221.snoc (n' := 22) rfl (fun vJ _ => vJ = .slice uh41 xh41.length vh41) rfl (fun _ _ _ _ h => h) (fun aS wS pS => by
          exact Does.val (wn _ rfl) (o_mv ((pS.old 6 rfl).trans e95)) (Gr.refl _) rfl rfl)
      have h103l : 2 < List.length xh41 := by omega
      obtain ⟨bh103, fh103, h103a, h103b, h103c⟩ := h41e (ne_nil_of_lt h103l)
      obtain ⟨xh103, h103x⟩ : ∃ x, xh41[2]? = some x := ⟨_, List.getElem?_eq_getElem h103l⟩
      have R9223 := R9222.snoc (n' := 23) rfl (fun vJ _ => vJ = .pointer (some ⟨bh103, fh103 + 2 * 1, none⟩)) rfl (fun _ _ _ _ h => h) (fun aS wS pS => by
          have eR92_21 : aS.eval (.tmp 55) = .slice uh41 xh41.length vh41 := pS.pre 21 rfl
          exact Does.val (wn _ rfl) (o_iaV (i := 2) (s := 1) h103a (eR92_21) ev_const Try.underlying27 (by kernel_rfl) h103l) (Gr.refl _) rfl rfl)
      have R9224 := R9223.snoc (n' := 24) rfl (fun vJ _ => vJ = .int .i64 (xh103)) rfl (fun _ _ _ _ h => h) (fun aS wS pS => by
          have eR92_22 : aS.eval (.tmp 56) = .pointer (some ⟨bh103, fh103 + 2 * 1, none⟩) := pS.pre 22 rfl
          exact Does.val (wn _ rfl) (o_ld (eR92_22) (Try.isAgg3 _) ((Below.cell (G86.trans (gr_drew pS.gr)) h103b).trans (h103c _ _ h103x))) (Gr.refl _) rfl rfl)
      have hw104 := wi_lt xh103 1000 (by omega)
      have R9225 := R9224.snoc (n' := 25) rfl (fun vJ _ => vJ = .int .i64 ((wi xh103 1000 : Nat) : Int)) rfl (fun _ _ _ _ h => h) (fun aS wS pS => by
          have eR92_23 : aS.eval (.tmp 57) = .int .i64 (xh103) := pS.pre 23 rfl
          exact Does.call (wn _ rfl) (o_f2 Try.func24 rfl rfl rfl (eR92_23) ev_const) (kwithin_any xh103 1000 (by omega) (by omega) wS) (by rintro _ w2 ⟨rfl, g⟩; exact ⟨_, rfl, g, rfl⟩) rfl)
      have R9226 := R9225.snoc (n' := 26) rfl (fun vJ _ => vJ = .agg #[.string (bs (idOf (wi xh96 2))), .int .i64 ((wi xh62 5 : Nat) : Int), .int .i64 (((cv (setC v (wi xh62 5) (((cv v (wi xh62 5))) + 1)) (wi xh62 5)) : Nat) : Int), .int .i64 ((wi xh99 16 : Nat) : Int), .int .i64 ((wi xh101 32 : Nat) : Int), .int .i64 ((wi xh103 1000 : Nat) : Int), .slice none 0 0, .slice none 0 0]) rfl (fun _ _ _ _ h => h) (fun aS wS pS => by
          have eR92_6 : aS.eval (.tmp 40) = .string (bs (idOf (wi xh96 2))) := pS.pre 6 rfl
          have eR92_11 : aS.eval (.tmp 45) = .agg #[.int .i64 ((wi xh62 5 : Nat) : Int), .int .i64 (((cv (setC v (wi xh62 5) (((cv v (wi xh62 5))) + 1)) (wi xh62 5)) : Nat) : Int)] := pS.pre 11 rfl
          have eR92_20 : aS.eval (.tmp 54) = .agg #[.int .i64 ((wi xh99 16 : Nat) : Int), .int .i64 ((wi xh101 32 : Nat) : Int)] := pS.pre 20 rfl
          have eR92_24 : aS.eval (.tmp 58) = .int .i64 ((wi xh103 1000 : Nat) : Int) := pS.pre 24 rfl
          exact Does.val (wn _ rfl) (o_bd (cells := #[.string (bs (idOf (wi xh96 2))), .int .i64 ((wi xh62 5 : Nat) : Int), .int .i64 (((cv (setC v (wi xh62 5) (((cv v (wi xh62 5))) + 1)) (wi xh62 5)) : Nat) : Int), .int .i64 ((wi xh99 16 : Nat) : Int), .int .i64 ((wi xh101 32 : Nat) : Int), .int .i64 ((wi xh103 1000 : Nat) : Int), .slice none 0 0, .slice none 0 0]) (vs := [(0, .string (bs (idOf (wi xh96 2)))), (1, .agg #[.int .i64 ((wi xh62 5 : Nat) : Int), .int .i64 (((cv (setC v (wi xh62 5) (((cv v (wi xh62 5))) + 1)) (wi xh62 5)) : Nat) : Int)]), (2, .agg #[.int .i64 ((wi xh99 16 : Nat) : Int), .int .i64 ((wi xh101 32 : Nat) : Int)]), (3, .int .i64 ((wi xh103 1000 : Nat) : Int))]) (by simp [(eR92_6), (eR92_11), (eR92_20), (eR92_24), ev_const]) (by kernel_rfl)) (Gr.refl _) rfl rfl)
      have R9227 := R9226.snoc (n' := 27) rfl (fun vJ wJ => ∃ b : Nat, vJ = .pointer (some ⟨b, 0, none⟩) ∧ w84.heap.size ≤ b ∧ Bk wJ b #[.string (bs []), .int .i64 0, .int .i64 0, .int .i64 0, .int .i64 0, .int .i64 0, .slice none 0 0, .slice none 0 0] 32) rfl (fun _ _ _ g ⟨b, h1, h2, h3⟩ => ⟨b, h1, h2, h3.gr g⟩) (fun aS wS pS => by
          exact Does.alloc (wn _ rfl) (o_al (z := .agg #[.string (bs []), .int .i64 0, .int .i64 0, .int .i64 0, .int .i64 0, .int .i64 0, .slice none 0 0, .slice none 0 0]) (by kernel_rfl)) ⟨_, rfl, pS.gr.size, (New.mk' _ _ _).bk⟩)
      refine R9227.run (k := 1) (L := #[true, true, true, true, true, true, true, true, true, true, true, true, true, true, true, true, true, true, true, true, true, true, true, true, true, true, true, false]) (by kernel_rfl) (by kernel_rfl) (by kernel_rfl) n83.ok (by kernel_rfl) (by kernel_rfl) (fun ap107 w108 p107 => ?_)
      have g109 := gr_drew p107.gr
      have G110 := G86.trans g109
      have B111 := B90.gr g109
      have z112 := Nat.le_trans z87 g109.size
      have O113 := ow_gr O88 g109
      have F114 := F89.tk (tks_gr g109)
      obtain ⟨b94, ep107_0, geb94, bkb94⟩ := p107.js 0 rfl
      have ep107_0 : ap107.eval (.tmp 34) = .slice (some ⟨b94, 0, none⟩) 2 2 := ep107_0
      obtain ⟨b105, ep107_26, geb105, bkb105⟩ := p107.js 26 rfl
      have ep107_26 : ap107.eval (.tmp 8) = .pointer (some ⟨b105, 0, none⟩) := ep107_26
      have l115 : b7 < b105 := Nat.lt_of_lt_of_le B90.lt geb105
      have l116 : w.heap.size ≤ b105 := Nat.le_trans G86.size geb105
      have l117 : ∀ k, Value.ownBlock (.slice ra (R.length) rc) = some k → k < b105 := fun k e => Nat.lt_of_lt_of_le (ow_in O88 k e) geb105
      have ep107_25 : ap107.eval (.tmp 59) = .agg #[.string (bs (idOf (wi xh96 2))), .int .i64 ((wi xh62 5 : Nat) : Int), .int .i64 (((cv (setC v (wi xh62 5) (((cv v (wi xh62 5))) + 1)) (wi xh62 5)) : Nat) : Int), .int .i64 ((wi xh99 16 : Nat) : Int), .int .i64 ((wi xh101 32 : Nat) : Int), .int .i64 ((wi xh103 1000 : Nat) : Int), .slice none 0 0, .slice none 0 0] := p107.js 25 rfl
      refine t_stR (i := 27) (by kernel_rfl) rfl rfl (wn _ rfl) (o_stR ep107_26 ep107_25 bkb105 (by kernel_rfl) rfl (by simp [Value.oneCell'])) bkb105 (fun w118 u119 u119b => ?_)
      have G120 : Gr w w118 := Below.upd G110 l116 u119
      have B121 := B111.upd u119 (Nat.ne_of_lt l115)
      have z122 : base ≤ w118.heap.size := by rw [u119.size]; exact z112
      have O123 := ow_upd_ne O113 u119 l117
      have F124 := F114.tk (tks_upd u119 bkb105 (by decide))
      refine wpAny_done (by kernel_rfl) ?_ _
      refine th_n (hK91 _ _ ?_)
      refine wp_seq_k (fun K125 hK125 => ?_)
      refine wp_region_lit ?_
      refine sal (cs := wArr (fun _ => 0)) p107.ok rfl (wn _ rfl) rfl (o_al (z := .agg (wArr (fun _ => 0))) dots_zero) (fun an126 w128 b127 W129 n126 => ?_)
      have l130 : b7 < b127 := by rw [W129.eq]; exact B121.lt
      have l131 : b105 < b127 := by rw [W129.eq]; exact u119b.lt
      have l132 : w.heap.size ≤ b127 := by rw [W129.eq]; exact G120.size
      have l133 : ∀ k, Value.ownBlock (.slice ra (R.length) rc) = some k → k < b127 := fun k e => by rw [W129.eq]; exact ow_in O123 k e
      have G134 := G120.trans W129.gr
      have B135 := B121.gr W129.gr
      have B136 := u119b.gr W129.gr
      have z137 := Nat.le_trans z122 W129.gr.size
      have O138 := ow_gr O123 W129.gr
      have F139 := F124.tk (tks_gr W129.gr)
      refine wpList_nil ?_
      refine th_n (hK125 _ _ ?_)
      refine wp_seq_k (fun K140 hK140 => ?_)
      refine wp_seq_k (fun K141 hK141 => ?_)
      refine wp_region_lit ?_
      have e142 := n126.ne rfl ((p107.old 3 rfl).trans (n83.ne rfl (n80.ne rfl (n79.ne rfl (n78.ne rfl (n76.ne rfl (n74.ne rfl (n66.ne rfl (n64.ne rfl (n63.ne rfl (n61.ne rfl (n49.ne rfl (n48.ne rfl (n47.ne rfl (n44.ne rfl (n43.ne rfl (n42.ne rfl (n36.ne rfl s3I28))))))))))))))))))
      refine sv n126.ok rfl (wn _ rfl) rfl (o_mv e142) (fun an143 n143 => ?_)
      refine sv n143.ok rfl (wn _ rfl) rfl (o_len n143.at_ Try.underlying22) (fun an144 n144 => ?_)
      refine sv n144.ok rfl (wn _ rfl) rfl (o_mv ev_const) (fun an145 n145 => ?_)
      refine wpList_nil ?_
      refine th_n (hK141 _ _ ?_)
      refine wp_block ?_
      have e147 := n145.ne rfl (n144.ne rfl (n143.ne rfl (n126.ne rfl ((p107.old 2 rfl).trans (n83.ne rfl (n80.ne rfl (n79.ne rfl (n78.ne rfl (n76.ne rfl (n74.ne rfl (n66.ne rfl (n64.ne rfl (n63.ne rfl (n61.ne rfl (n49.ne rfl (n48.ne rfl (n47.ne rfl (n44.ne rfl (n43.ne rfl (n42.ne rfl (n36.ne rfl s2I28)))))))))))))))))))))
      have e148 := n145.ne rfl (n144.ne rfl (n143.ne rfl e142))
      have e149 := n145.ne rfl (n144.ne rfl (n143.ne rfl (n126.ne rfl ((p107.old 4 rfl).trans (n83.ne rfl e81)))))
      have e150 := n145.ne rfl (n144.ne rfl (n143.ne rfl (n126.ne rfl ((p107.old 6 rfl).trans e95))))
      have e151 := n145.ne rfl (n144.ne rfl (n143.ne rfl (n126.ne rfl ep107_26)))
      have e152 := n145.ne rfl (n144.ne rfl (n143.ne rfl n126.at_))
      have e153 := n145.ne rfl (n144.ne rfl (n143.ne rfl (n126.ne rfl ((p107.old 16 rfl).trans (n83.ne rfl (n80.ne rfl (n79.ne rfl (n78.ne rfl (n76.ne rfl (n74.ne rfl (n66.ne rfl (n64.ne rfl (n63.ne rfl (n61.ne rfl (n49.ne rfl (n48.ne rfl (n47.ne rfl (n44.ne rfl (n43.ne rfl (n42.ne rfl (n36.ne rfl s16I28)))))))))))))))))))))
      have e154 := n145.ne rfl (n144.ne rfl (n143.ne rfl (n126.ne rfl ((p107.old 17 rfl).trans (n83.ne rfl (n80.ne rfl (n79.ne rfl (n78.ne rfl (n76.ne rfl (n74.ne rfl (n66.ne rfl (n64.ne rfl (n63.ne rfl (n61.ne rfl (n49.ne rfl (n48.ne rfl (n47.ne rfl (n44.ne rfl (n43.ne rfl (n42.ne rfl (n36.ne rfl s17I28)))))))))))))))))))))
      have e155 := n145.ne rfl (n144.ne rfl (n143.ne rfl (n126.ne rfl ((p107.old 18 rfl).trans (n83.ne rfl (n80.ne rfl (n79.ne rfl (n78.ne rfl (n76.ne rfl (n74.ne rfl (n66.ne rfl (n64.ne rfl (n63.ne rfl (n61.ne rfl (n49.ne rfl (n48.ne rfl (n47.ne rfl (n44.ne rfl (n43.ne rfl (n42.ne rfl (n36.ne rfl s18I28)))))))))))))))))))))
      refine lp (fun (nL : Nat) (aL : Act) (wL : World) => ∃ k : Nat, ∃ X : Nat → Nat, nL = R.length - k ∧ Ok 103 aL ∧ Gr w wL ∧ (aL.eval (.tmp 2) = .slice none 0 0) ∧ (aL.eval (.tmp 3) = .slice ra (R.length) rc) ∧ (aL.eval (.tmp 4) = .pointer (some ⟨b7, 0, none⟩)) ∧ (aL.eval (.tmp 6) = .slice uh41 xh41.length vh41) ∧ (aL.eval (.tmp 8) = .pointer (some ⟨b105, 0, none⟩)) ∧ (aL.eval (.tmp 9) = .pointer (some ⟨b127, 0, none⟩)) ∧ (aL.eval (.tmp 16) = .slice va (min (L.length) (20)) vc) ∧ (aL.eval (.tmp 17) = .int .i64 ((min (L.length) (20) : Nat) : Int)) ∧ (aL.eval (.tmp 18) = .int .i64 (i : Int)) ∧ (aL.eval (.tmp 60) = .slice ra (R.length) rc) ∧ (aL.eval (.tmp 61) = .int .i64 (((R.length) : Nat) : Int)) ∧ (aL.eval (.tmp 62) = .int .i64 (k : Int)) ∧ (Bk wL b7 (cArr (setC v (wi xh62 5) (((cv v (wi xh62 5))) + 1))) 97) ∧ (Bk wL b105 #[.string (bs (idOf (wi xh96 2))), .int .i64 ((wi xh62 5 : Nat) : Int), .int .i64 (((cv (setC v (wi xh62 5) (((cv v (wi xh62 5))) + 1)) (wi xh62 5)) : Nat) : Int), .int .i64 ((wi xh99 16 : Nat) : Int), .int .i64 ((wi xh101 32 : Nat) : Int), .int .i64 ((wi xh103 1000 : Nat) : Int), .slice none 0 0, .slice none 0 0] 32) ∧ (Bk wL b127 (wArr X) 87) ∧ (OwnsVr base wL R) ∧ (World.ownsRow wL base 32 8 (.slice ra (R.length) rc) (R.length) ((flatE encVr R))) ∧ (base ≤ wL.heap.size) ∧ (k ≤ R.length) ∧ (PastOf (R.map VerI.d) (idOf (wi xh96 2)) X)) _ ⟨0, (fun _ => 0), rfl, n145.ok, G134, e147, e148, e149, e150, e151, e152, e153, e154, e155, (n145.ne rfl (n144.ne rfl n143.at_)), (n145.ne rfl n144.at_), n145.at_, B135, B136, W129.bk, F139, O138, z137, by omega, PastOf.zero _ _⟩ ?_
      rintro m156 aI146 w158 ⟨k, X, hmI146, okI146, GI146, s2I146, s3I146, s4I146, s6I146, s8I146, s9I146, s16I146, s17I146, s18I146, s60I146, s61I146, s62I146, kb7I146, kb105I146, kb127I146, fpsI146, orI146, zbaseI146, hkI146, hPI146⟩ KI146 hKI146
      refine wp_seq_k (fun K159 hK159 => ?_)
      refine wp_region_lit ?_
      refine sv okI146 rfl (wn _ rfl) rfl (o_ltI s62I146 s61I146) (fun an160 n160 => ?_)
      refine wpList_nil ?_
      refine th_n (hK159 _ _ ?_)
      refine wp_seq_k (fun K161 hK161 => ?_)
      by_cases c162 : (k : Int) < (((R.length) : Nat) : Int)
      · refine wp_cond_true ((n160.at_).trans (congrArg Value.bool (decide_eq_true c162))) ?_
        refine wp_skip ?_
        refine th_n (hK161 _ _ ?_)
        refine wp_seq_k (fun K163 hK163 => ?_)
        refine wp_block ?_
        refine wp_seq_k (fun K164 hK164 => ?_)
        refine wp_region_lit ?_
        refine sv n160.ok rfl (wn _ rfl) rfl (o_mv (n160.ne rfl s62I146)) (fun an165 n165 => ?_)
        have h166l : k < List.length R := by omega
        obtain ⟨bh166, fh166, h166a, h166b, h166c⟩ := RdA.own encVr_ok orI146 rfl (ne_nil_of_lt h166l)
        obtain ⟨xh166, h166x⟩ : ∃ x, R[k]? = some x := ⟨_, List.getElem?_eq_getElem h166l⟩
        refine sv n165.ok rfl (wn _ rfl) rfl (o_iaV (i := k) (s := 8) h166a (n165.ne rfl (n160.ne rfl s60I146)) (n165.ne rfl (n160.ne rfl s62I146)) Try.underlying22 (by kernel_rfl) h166l) (fun an167 n167 => ?_)
        refine sv n167.ok rfl (wn _ rfl) rfl (o_ldA (k := fh166 + k * 8) n167.at_ (cs := [.string (bs xh166.d.id), .int .i64 (xh166.d.s), .int .i64 (xh166.d.c), .int .i64 (xh166.d.t), .int .i64 (xh166.d.n), .int .i64 (xh166.d.b), .slice xh166.va xh166.d.V.length xh166.vc, .slice xh166.ma xh166.d.M.length xh166.mc]) (fun j v hv => h166c _ _ h166x j v hv) Try.underlying32 rfl (by kernel_rfl)) (fun an168 n168 => ?_)
        refine sal (cs := #[.string (bs []), .int .i64 0, .int .i64 0, .int .i64 0, .int .i64 0, .int .i64 0, .slice none 0 0, .slice none 0 0]) n168.ok rfl (wn _ rfl) rfl (o_al (z := .agg #[.string (bs []), .int .i64 0, .int .i64 0, .int .i64 0, .int .i64 0, .int .i64 0, .slice none 0 0, .slice none 0 0]) (by kernel_rfl)) (fun an169 w171 b170 W172 n169 => ?_)
        have l173 : b7 < b170 := by rw [W172.eq]; exact kb7I146.lt
        have l174 : b105 < b170 := by rw [W172.eq]; exact kb105I146.lt
        have l175 : b127 < b170 := by rw [W172.eq]; exact kb127I146.lt
        have l176 : w.heap.size ≤ b170 := by rw [W172.eq]; exact GI146.size
        have l177 : ∀ k, Value.ownBlock (.slice ra (R.length) rc) = some k → k < b170 := fun k e => by rw [W172.eq]; exact ow_in orI146 k e
        have G178 := GI146.trans W172.gr
        have B179 := kb7I146.gr W172.gr
        have B180 := kb105I146.gr W172.gr
        have B181 := kb127I146.gr W172.gr
        have z182 := Nat.le_trans zbaseI146 W172.gr.size
        have O183 := ow_gr orI146 W172.gr
        have F184 := fpsI146.tk (tks_gr W172.gr)
        have e185 := n169.ne rfl (n168.ne rfl (n167.ne rfl n165.at_))
        refine sv n169.ok rfl (wn _ rfl) rfl (o_as e185) (fun an186 n186 => ?_)
        refine ssR rfl (wn _ rfl) (o_stR (n186.ne rfl n169.at_) (n186.ne rfl (n169.ne rfl n168.at_)) W172.bk (by kernel_rfl) rfl (by simp [Value.oneCell'])) W172.bk (fun w187 u188 u188b => ?_)
        have G189 : Gr w w187 := Below.upd G178 l176 u188
        have B190 := B179.upd u188 (Nat.ne_of_lt l173)
        have B191 := B180.upd u188 (Nat.ne_of_lt l174)
        have B192 := B181.upd u188 (Nat.ne_of_lt l175)
        have z193 : base ≤ w187.heap.size := by rw [u188.size]; exact z182
        have O194 := ow_upd_ne O183 u188 l177
        have F195 := F184.tk (tks_upd u188 W172.bk (by decide))
        refine wpList_nil ?_
        refine th_n (hK164 _ _ ?_)
        refine wp_seq_k (fun K196 hK196 => ?_)
        refine wp_region_lit ?_
        refine sv n186.ok rfl (wn _ rfl) rfl (o_fa (z := 1) (n186.ne rfl n169.at_) Try.underlying32 rfl (by kernel_rfl) rfl rfl) (fun an197 n197 => ?_)
        refine sv n197.ok rfl (wn _ rfl) rfl (o_ld n197.at_ (Try.isAgg9 _) (u188b.cell _ rfl)) (fun an198 n198 => ?_)
        have e199 := n198.ne rfl (n197.ne rfl (n186.ne rfl (n169.ne rfl (n168.ne rfl (n167.ne rfl (n165.ne rfl (n160.ne rfl s8I146)))))))
        refine sv n198.ok rfl (wn _ rfl) rfl (o_fa (z := 1) e199 Try.underlying32 rfl (by kernel_rfl) rfl rfl) (fun an200 n200 => ?_)
        refine sv n200.ok rfl (wn _ rfl) rfl (o_ld n200.at_ (Try.isAgg9 _) (B191.cell _ rfl)) (fun an201 n201 => ?_)
        refine sv n201.ok rfl (wn _ rfl) rfl (o_eqS (n201.ne rfl (n200.ne rfl n198.at_)) n201.at_) (fun an202 n202 => ?_)
        refine sv n202.ok rfl (wn _ rfl) rfl (o_mv n202.at_) (fun an203 n203 => ?_)
        by_cases c204 : xh166.d.id = (idOf (wi xh96 2))
        · have e205 := (n203.at_).trans (congrArg Value.bool (decide_eq_true c204))
          have e206 := ((n203.ne rfl n202.at_)).trans (congrArg Value.bool (decide_eq_true c204))
          have e207 := n203.ne rfl (n202.ne rfl (n201.ne rfl (n200.ne rfl (n198.ne rfl (n197.ne rfl (n186.ne rfl (n169.ne rfl (n168.ne rfl (n167.ne rfl (n165.ne rfl (n160.ne rfl s6I146)))))))))))
          refine sv n203.ok rfl (wgT rfl (yl 5 true rfl e205) rfl) rfl (o_mv e207) (fun an208 n208 => ?_)
          have h209l : 2 < List.length xh41 := by omega
          obtain ⟨bh209, fh209, h209a, h209b, h209c⟩ := h41e (ne_nil_of_lt h209l)
          obtain ⟨xh209, h209x⟩ : ∃ x, xh41[2]? = some x := ⟨_, List.getElem?_eq_getElem h209l⟩
          refine sv n208.ok rfl (wgT rfl (yl 5 true rfl (n208.ne rfl e205)) rfl) rfl (o_iaV (i := 2) (s := 1) h209a n208.at_ ev_const Try.underlying27 (by kernel_rfl) h209l) (fun an210 n210 => ?_)
          refine sv n210.ok rfl (wgT rfl (yl 5 true rfl (n210.ne rfl (n208.ne rfl e205))) rfl) rfl (o_ld n210.at_ (Try.isAgg3 _) ((Below.cell G189 h209b).trans (h209c _ _ h209x))) (fun an211 n211 => ?_)
          have e212 := n211.ne rfl (n210.ne rfl (n208.ne rfl e205))
          have e213 := n211.ne rfl (n210.ne rfl (n208.ne rfl (n203.ne rfl (n202.ne rfl (n201.ne rfl (n200.ne rfl (n198.ne rfl (n197.ne rfl n186.at_))))))))
          refine sv n211.ok rfl (wgT rfl (yl 5 true rfl e212) rfl) rfl (o_mv e213) (fun an214 n214 => ?_)
          refine sv n214.ok rfl (wgT rfl (yl 5 true rfl (n214.ne rfl e212)) rfl) rfl (o_rem (i := k) (j := 30) n214.at_ ev_const (by omega) rfl) (fun an215 n215 => ?_)
          obtain ⟨r216, hr216⟩ := o_shrI (P := Try.prog) (d := some 78) (n := k % 30) (n215.ne rfl (n214.ne rfl n211.at_)) n215.at_
          refine sv n215.ok rfl (wgT rfl (yl 5 true rfl (n215.ne rfl (n214.ne rfl e212))) rfl) rfl (hr216) (fun an217 n217 => ?_)
          have e218 := n217.ne rfl (n215.ne rfl (n214.ne rfl e212))
          obtain ⟨r219, hr219⟩ := o_andI (P := Try.prog) (d := some 79) n217.at_ ev_const
          refine sv n217.ok rfl (wgT rfl (yl 5 true rfl e218) rfl) rfl hr219 (fun an220 n220 => ?_)
          refine sv n220.ok rfl (wgT rfl (yl 5 true rfl (n220.ne rfl e218)) rfl) rfl (o_eqI n220.at_ ev_const) (fun an221 n221 => ?_)
          refine sv n221.ok rfl (wn _ rfl) rfl (o_pkT (n221.ne rfl (n220.ne rfl e218)) n221.at_) (fun an222 n222 => ?_)
          refine wpList_nil ?_
          refine th_n (hK196 _ _ ?_)
          by_cases c223 : r219 = 1
          · refine wp_cond_true ((n222.at_).trans (congrArg Value.bool (decide_eq_true c223))) ?_
            refine reg_start (N := 103) (m := 8) (by kernel_rfl) (fun R2240 => ?_)
            have e225 := n222.ne rfl (n221.ne rfl (n220.ne rfl (n217.ne rfl (n215.ne rfl (n214.ne rfl (n211.ne rfl (n210.ne rfl (n208.ne rfl (n203.ne rfl (n202.ne rfl (n201.ne rfl (n200.ne rfl (n198.ne rfl (n197.ne rfl (n186.ne rfl (n169.ne rfl (n168.ne rfl (n167.ne rfl (n165.ne rfl (n160.ne rfl s9I146))))))))))))))))))))
            have R2241 := R2240.snoc (n' := 1) rfl (fun vJ _ => vJ = .agg (wArr X)) rfl (fun _ _ _ _ h => h) (fun aS wS pS => by
                exact Does.val (wn _ rfl) (o_ldR ((pS.old 9 rfl).trans e225) (Bk.gr B192 (gr_drew pS.gr)) Try.underlying87 rfl (dots_sz X)) (Gr.refl _) rfl rfl)
            have e226 := n222.ne rfl (n221.ne rfl (n220.ne rfl (n217.ne rfl (n215.ne rfl (n214.ne rfl (n211.ne rfl (n210.ne rfl (n208.ne rfl (n203.ne rfl (n202.ne rfl (n201.ne rfl (n200.ne rfl (n198.ne rfl (n197.ne rfl (n186.ne rfl n169.at_)))))))))))))))
            have R2242 := R2241.snoc (n' := 2) rfl (fun vJ _ => vJ = .pointer (some ⟨b170, 6, none⟩)) rfl (fun _ _ _ _ h => h) (fun aS wS pS => by
                exact Does.val (wn _ rfl) (o_fa (z := 2) ((pS.old 11 rfl).trans e226) Try.underlying32 rfl (by kernel_rfl) rfl rfl) (Gr.refl _) rfl rfl)
            have R2243 := R2242.snoc (n' := 3) rfl (fun vJ _ => vJ = .agg #[.slice xh166.va xh166.d.V.length xh166.vc, .slice xh166.ma xh166.d.M.length xh166.mc]) rfl (fun _ _ _ _ h => h) (fun aS wS pS => by
                have eR224_1 : aS.eval (.tmp 83) = .pointer (some ⟨b170, 6, none⟩) := pS.pre 1 rfl
                exact Does.val (wn _ rfl) (o_ldA (k := 6) (cs := [.slice xh166.va xh166.d.V.length xh166.vc, .slice xh166.ma xh166.d.M.length xh166.mc]) (eR224_1) (bk_part (Bk.gr u188b (gr_drew pS.gr)) rfl) Try.underlying30 rfl (by kernel_rfl)) (Gr.refl _) rfl rfl)
            have R2244 := R2243.snoc (n' := 4) rfl (fun vJ _ => vJ = .agg (wArr (xOf (dsV xh166.d)))) rfl (fun _ _ _ _ h => h) (fun aS wS pS => by
                have eR224_2 : aS.eval (.tmp 84) = .agg #[.slice xh166.va xh166.d.V.length xh166.vc, .slice xh166.ma xh166.d.M.length xh166.mc] := pS.pre 2 rfl
                exact Does.call (wn _ rfl) (o_f1 Try.func56 rfl rfl rfl (eR224_2)) (rallC _ xh166.d.V xh166.d.M wS (((F195).tk (tks_gr (gr_drew pS.gr))).mean _ (List.mem_of_getElem? h166x)) (chkOne_zero (hTI28.one _ (List.mem_map_of_mem (f := VerI.d) (List.mem_of_getElem? h166x)))).2.2.1) (by rintro _ w2 ⟨rfl, g⟩; exact ⟨_, rfl, g, rfl⟩) rfl)
            have R2245 := R2244.snoc (n' := 5) rfl (fun vJ _ => vJ = .agg (wArr (fun q => X q ||| xOf (dsV xh166.d) q))) rfl (fun _ _ _ _ h => h) (fun aS wS pS => by
                have eR224_0 : aS.eval (.tmp 82) = .agg (wArr X) := pS.pre 0 rfl
                have eR224_3 : aS.eval (.tmp 85) = .agg (wArr (xOf (dsV xh166.d))) := pS.pre 3 rfl
                exact Does.call (wn _ rfl) (o_f2 Try.func62 rfl rfl rfl (eR224_0) (eR224_3)) (djoin_any X (xOf (dsV xh166.d)) hPI146.ok (xOf_ok _) wS) (by rintro _ w2 ⟨rfl, g⟩; exact ⟨_, rfl, g, rfl⟩) rfl)
            have R2246 := R2245.snoc (n' := 6) rfl (fun vJ _ => vJ = .pointer (some ⟨b170, 1, none⟩)) rfl (fun _ _ _ _ h => h) (fun aS wS pS => by
                exact Does.val (wn _ rfl) (o_fa (z := 2) ((pS.old 11 rfl).trans e226) Try.underlying32 rfl (by kernel_rfl) rfl rfl) (Gr.refl _) rfl rfl)
            have R2247 := R2246.snoc (n' := 7) rfl (fun vJ _ => vJ = .agg #[.int .i64 (xh166.d.s), .int .i64 (xh166.d.c)]) rfl (fun _ _ _ _ h => h) (fun aS wS pS => by
                have eR224_5 : aS.eval (.tmp 87) = .pointer (some ⟨b170, 1, none⟩) := pS.pre 5 rfl
                exact Does.val (wn _ rfl) (o_ldA (k := 1) (cs := [.int .i64 (xh166.d.s), .int .i64 (xh166.d.c)]) (eR224_5) (bk_part (Bk.gr u188b (gr_drew pS.gr)) rfl) Try.underlying24 rfl (by kernel_rfl)) (Gr.refl _) rfl rfl)
            have hd227 := hTI28.dot hvI28 (List.mem_map_of_mem (f := VerI.d) (List.mem_of_getElem? h166x))
            have R2248 := R2247.snoc (n' := 8) rfl (fun vJ _ => vJ = .agg (wArr (withX (fun q => X q ||| xOf (dsV xh166.d) q) xh166.d.s.toNat xh166.d.c.toNat))) rfl (fun _ _ _ _ h => h) (fun aS wS pS => by
                have eR224_4 : aS.eval (.tmp 86) = .agg (wArr (fun q => X q ||| xOf (dsV xh166.d) q)) := pS.pre 4 rfl
                have eR224_6 : aS.eval (.tmp 88) = .agg #[.int .i64 (xh166.d.s), .int .i64 (xh166.d.c)] := pS.pre 6 rfl
                exact Does.call (wn _ rfl) (o_f2 Try.func63 rfl rfl rfl (eR224_4) (eR224_6)) (rwithI (fun q => X q ||| xOf (dsV xh166.d) q) xh166.d.s xh166.d.c wS (fun q => Nat.or_lt_two_pow (hPI146.ok q) (xOf_ok _ q)) hd227.1 hd227.2.1 hd227.2.2.1 hd227.2.2.2) (by rintro _ w2 ⟨rfl, g⟩; exact ⟨_, rfl, g, rfl⟩) rfl)
            refine R2248.run (k := 1) (L := #[true, true, true, true, true, true, true, true, false]) (by kernel_rfl) (by kernel_rfl) (by kernel_rfl) n222.ok (by kernel_rfl) (by kernel_rfl) (fun ap229 w230 p229 => ?_)
            have g231 := gr_drew p229.gr
            have G232 := G189.trans g231
            have B233 := B190.gr g231
            have B234 := B191.gr g231
            have B235 := B192.gr g231
            have B236 := u188b.gr g231
            have z237 := Nat.le_trans z193 g231.size
            have O238 := ow_gr O194 g231
            have F239 := F195.tk (tks_gr g231)
            have ep229_7 : ap229.eval (.tmp 89) = .agg (wArr (withX (fun q => X q ||| xOf (dsV xh166.d) q) xh166.d.s.toNat xh166.d.c.toNat)) := p229.js 7 rfl
            refine t_stR (i := 8) (by kernel_rfl) rfl rfl (wn _ rfl) (o_stR ((p229.old 9 rfl).trans e225) ep229_7 B235 (dots_sz (withX (fun q => X q ||| xOf (dsV xh166.d) q) xh166.d.s.toNat xh166.d.c.toNat)) (by rw [wArr_size, wArr_size]) (wArr_one (withX (fun q => X q ||| xOf (dsV xh166.d) q) xh166.d.s.toNat xh166.d.c.toNat))) B235 (fun w240 u241 u241b => ?_)
            have G242 : Gr w w240 := Below.upd G232 l132 u241
            have B243 := B233.upd u241 (Nat.ne_of_lt l130)
            have B244 := B234.upd u241 (Nat.ne_of_lt l131)
            have B245 := B236.upd u241 (Nat.ne_of_gt l175)
            have z246 : base ≤ w240.heap.size := by rw [u241.size]; exact z237
            have O247 := ow_upd_ne O238 u241 l133
            have F248 := F239.tk (tks_upd u241 B235 (by decide))
            refine wpAny_done (by kernel_rfl) ?_ _
            refine ib_n ?_
            refine th_n (hK163 _ _ ?_)
            refine wp_region_lit ?_
            have e249 := (p229.old 62 rfl).trans (n222.ne rfl (n221.ne rfl (n220.ne rfl (n217.ne rfl (n215.ne rfl (n214.ne rfl (n211.ne rfl (n210.ne rfl (n208.ne rfl (n203.ne rfl (n202.ne rfl (n201.ne rfl (n200.ne rfl (n198.ne rfl (n197.ne rfl (n186.ne rfl (n169.ne rfl (n168.ne rfl (n167.ne rfl (n165.ne rfl (n160.ne rfl s62I146)))))))))))))))))))))
            refine sv p229.ok rfl (wn _ rfl) rfl (o_add (r := ((k + 1 : Nat) : Int)) e249 ev_const (by omega) (by omega)) (fun an250 n250 => ?_)
            refine sv n250.ok rfl (wn _ rfl) rfl (o_mv n250.at_) (fun an251 n251 => ?_)
            refine wpList_nil ?_
            have e252 := n251.ne rfl (n250.ne rfl ((p229.old 2 rfl).trans (n222.ne rfl (n221.ne rfl (n220.ne rfl (n217.ne rfl (n215.ne rfl (n214.ne rfl (n211.ne rfl (n210.ne rfl (n208.ne rfl (n203.ne rfl (n202.ne rfl (n201.ne rfl (n200.ne rfl (n198.ne rfl (n197.ne rfl (n186.ne rfl (n169.ne rfl (n168.ne rfl (n167.ne rfl (n165.ne rfl (n160.ne rfl s2I146)))))))))))))))))))))))
            have e253 := n251.ne rfl (n250.ne rfl ((p229.old 3 rfl).trans (n222.ne rfl (n221.ne rfl (n220.ne rfl (n217.ne rfl (n215.ne rfl (n214.ne rfl (n211.ne rfl (n210.ne rfl (n208.ne rfl (n203.ne rfl (n202.ne rfl (n201.ne rfl (n200.ne rfl (n198.ne rfl (n197.ne rfl (n186.ne rfl (n169.ne rfl (n168.ne rfl (n167.ne rfl (n165.ne rfl (n160.ne rfl s3I146)))))))))))))))))))))))
            have e254 := n251.ne rfl (n250.ne rfl ((p229.old 4 rfl).trans (n222.ne rfl (n221.ne rfl (n220.ne rfl (n217.ne rfl (n215.ne rfl (n214.ne rfl (n211.ne rfl (n210.ne rfl (n208.ne rfl (n203.ne rfl (n202.ne rfl (n201.ne rfl (n200.ne rfl (n198.ne rfl (n197.ne rfl (n186.ne rfl (n169.ne rfl (n168.ne rfl (n167.ne rfl (n165.ne rfl (n160.ne rfl s4I146)))))))))))))))))))))))
            have e255 := n251.ne rfl (n250.ne rfl ((p229.old 6 rfl).trans (n222.ne rfl (n221.ne rfl (n220.ne rfl (n217.ne rfl (n215.ne rfl (n214.ne rfl (n211.ne rfl (n210.ne rfl (n208.ne rfl e207)))))))))))
            have e256 := n251.ne rfl (n250.ne rfl ((p229.old 8 rfl).trans (n222.ne rfl (n221.ne rfl (n220.ne rfl (n217.ne rfl (n215.ne rfl (n214.ne rfl (n211.ne rfl (n210.ne rfl (n208.ne rfl (n203.ne rfl (n202.ne rfl (n201.ne rfl (n200.ne rfl e199)))))))))))))))
            have e257 := n251.ne rfl (n250.ne rfl ((p229.old 9 rfl).trans e225))
            have e258 := n251.ne rfl (n250.ne rfl ((p229.old 16 rfl).trans (n222.ne rfl (n221.ne rfl (n220.ne rfl (n217.ne rfl (n215.ne rfl (n214.ne rfl (n211.ne rfl (n210.ne rfl (n208.ne rfl (n203.ne rfl (n202.ne rfl (n201.ne rfl (n200.ne rfl (n198.ne rfl (n197.ne rfl (n186.ne rfl (n169.ne rfl (n168.ne rfl (n167.ne rfl (n165.ne rfl (n160.ne rfl s16I146)))))))))))))))))))))))
            have e259 := n251.ne rfl (n250.ne rfl ((p229.old 17 rfl).trans (n222.ne rfl (n221.ne rfl (n220.ne rfl (n217.ne rfl (n215.ne rfl (n214.ne rfl (n211.ne rfl (n210.ne rfl (n208.ne rfl (n203.ne rfl (n202.ne rfl (n201.ne rfl (n200.ne rfl (n198.ne rfl (n197.ne rfl (n186.ne rfl (n169.ne rfl (n168.ne rfl (n167.ne rfl (n165.ne rfl (n160.ne rfl s17I146)))))))))))))))))))))))
            have e260 := n251.ne rfl (n250.ne rfl ((p229.old 18 rfl).trans (n222.ne rfl (n221.ne rfl (n220.ne rfl (n217.ne rfl (n215.ne rfl (n214.ne rfl (n211.ne rfl (n210.ne rfl (n208.ne rfl (n203.ne rfl (n202.ne rfl (n201.ne rfl (n200.ne rfl (n198.ne rfl (n197.ne rfl (n186.ne rfl (n169.ne rfl (n168.ne rfl (n167.ne rfl (n165.ne rfl (n160.ne rfl s18I146)))))))))))))))))))))))
            have e261 := n251.ne rfl (n250.ne rfl ((p229.old 60 rfl).trans (n222.ne rfl (n221.ne rfl (n220.ne rfl (n217.ne rfl (n215.ne rfl (n214.ne rfl (n211.ne rfl (n210.ne rfl (n208.ne rfl (n203.ne rfl (n202.ne rfl (n201.ne rfl (n200.ne rfl (n198.ne rfl (n197.ne rfl (n186.ne rfl (n169.ne rfl (n168.ne rfl (n167.ne rfl (n165.ne rfl (n160.ne rfl s60I146)))))))))))))))))))))))
            have e262 := n251.ne rfl (n250.ne rfl ((p229.old 61 rfl).trans (n222.ne rfl (n221.ne rfl (n220.ne rfl (n217.ne rfl (n215.ne rfl (n214.ne rfl (n211.ne rfl (n210.ne rfl (n208.ne rfl (n203.ne rfl (n202.ne rfl (n201.ne rfl (n200.ne rfl (n198.ne rfl (n197.ne rfl (n186.ne rfl (n169.ne rfl (n168.ne rfl (n167.ne rfl (n165.ne rfl (n160.ne rfl s61I146)))))))))))))))))))))))
            exact th_n (hKI146 _ _ _ (by omega) ⟨k + 1, (withX (fun q => X q ||| xOf (dsV xh166.d) q) xh166.d.s.toNat xh166.d.c.toNat), rfl, n251.ok, G242, e252, e253, e254, e255, e256, e257, e258, e259, e260, e261, e262, n251.at_, B243, B244, u241b, F248, O247, z246, by omega, PastOf.step hTI28 (fun s hs => Nat.le_trans (hvI28 s hs) (by omega)) (List.mem_map_of_mem (f := VerI.d) (List.mem_of_getElem? h166x)) c204 hPI146 (xOf_ok _) (fun s q _ hq => xOf_ds _ s q hq)⟩)
          · refine wp_cond_false ((n222.at_).trans (congrArg Value.bool (decide_eq_false c223))) ?_
            refine wp_skip ?_
            refine ib_n ?_
            refine th_n (hK163 _ _ ?_)
            refine wp_region_lit ?_
            have e263 := n222.ne rfl (n221.ne rfl (n220.ne rfl (n217.ne rfl (n215.ne rfl (n214.ne rfl (n211.ne rfl (n210.ne rfl (n208.ne rfl (n203.ne rfl (n202.ne rfl (n201.ne rfl (n200.ne rfl (n198.ne rfl (n197.ne rfl (n186.ne rfl (n169.ne rfl (n168.ne rfl (n167.ne rfl (n165.ne rfl (n160.ne rfl s62I146))))))))))))))))))))
            refine sv n222.ok rfl (wn _ rfl) rfl (o_add (r := ((k + 1 : Nat) : Int)) e263 ev_const (by omega) (by omega)) (fun an264 n264 => ?_)
            refine sv n264.ok rfl (wn _ rfl) rfl (o_mv n264.at_) (fun an265 n265 => ?_)
            refine wpList_nil ?_
            have e266 := n265.ne rfl (n264.ne rfl (n222.ne rfl (n221.ne rfl (n220.ne rfl (n217.ne rfl (n215.ne rfl (n214.ne rfl (n211.ne rfl (n210.ne rfl (n208.ne rfl (n203.ne rfl (n202.ne rfl (n201.ne rfl (n200.ne rfl (n198.ne rfl (n197.ne rfl (n186.ne rfl (n169.ne rfl (n168.ne rfl (n167.ne rfl (n165.ne rfl (n160.ne rfl s2I146))))))))))))))))))))))
            have e267 := n265.ne rfl (n264.ne rfl (n222.ne rfl (n221.ne rfl (n220.ne rfl (n217.ne rfl (n215.ne rfl (n214.ne rfl (n211.ne rfl (n210.ne rfl (n208.ne rfl (n203.ne rfl (n202.ne rfl (n201.ne rfl (n200.ne rfl (n198.ne rfl (n197.ne rfl (n186.ne rfl (n169.ne rfl (n168.ne rfl (n167.ne rfl (n165.ne rfl (n160.ne rfl s3I146))))))))))))))))))))))
            have e268 := n265.ne rfl (n264.ne rfl (n222.ne rfl (n221.ne rfl (n220.ne rfl (n217.ne rfl (n215.ne rfl (n214.ne rfl (n211.ne rfl (n210.ne rfl (n208.ne rfl (n203.ne rfl (n202.ne rfl (n201.ne rfl (n200.ne rfl (n198.ne rfl (n197.ne rfl (n186.ne rfl (n169.ne rfl (n168.ne rfl (n167.ne rfl (n165.ne rfl (n160.ne rfl s4I146))))))))))))))))))))))
            have e269 := n265.ne rfl (n264.ne rfl (n222.ne rfl (n221.ne rfl (n220.ne rfl (n217.ne rfl (n215.ne rfl (n214.ne rfl (n211.ne rfl (n210.ne rfl (n208.ne rfl e207))))))))))
            have e270 := n265.ne rfl (n264.ne rfl (n222.ne rfl (n221.ne rfl (n220.ne rfl (n217.ne rfl (n215.ne rfl (n214.ne rfl (n211.ne rfl (n210.ne rfl (n208.ne rfl (n203.ne rfl (n202.ne rfl (n201.ne rfl (n200.ne rfl e199))))))))))))))
            have e271 := n265.ne rfl (n264.ne rfl (n222.ne rfl (n221.ne rfl (n220.ne rfl (n217.ne rfl (n215.ne rfl (n214.ne rfl (n211.ne rfl (n210.ne rfl (n208.ne rfl (n203.ne rfl (n202.ne rfl (n201.ne rfl (n200.ne rfl (n198.ne rfl (n197.ne rfl (n186.ne rfl (n169.ne rfl (n168.ne rfl (n167.ne rfl (n165.ne rfl (n160.ne rfl s9I146))))))))))))))))))))))
            have e272 := n265.ne rfl (n264.ne rfl (n222.ne rfl (n221.ne rfl (n220.ne rfl (n217.ne rfl (n215.ne rfl (n214.ne rfl (n211.ne rfl (n210.ne rfl (n208.ne rfl (n203.ne rfl (n202.ne rfl (n201.ne rfl (n200.ne rfl (n198.ne rfl (n197.ne rfl (n186.ne rfl (n169.ne rfl (n168.ne rfl (n167.ne rfl (n165.ne rfl (n160.ne rfl s16I146))))))))))))))))))))))
            have e273 := n265.ne rfl (n264.ne rfl (n222.ne rfl (n221.ne rfl (n220.ne rfl (n217.ne rfl (n215.ne rfl (n214.ne rfl (n211.ne rfl (n210.ne rfl (n208.ne rfl (n203.ne rfl (n202.ne rfl (n201.ne rfl (n200.ne rfl (n198.ne rfl (n197.ne rfl (n186.ne rfl (n169.ne rfl (n168.ne rfl (n167.ne rfl (n165.ne rfl (n160.ne rfl s17I146))))))))))))))))))))))
            have e274 := n265.ne rfl (n264.ne rfl (n222.ne rfl (n221.ne rfl (n220.ne rfl (n217.ne rfl (n215.ne rfl (n214.ne rfl (n211.ne rfl (n210.ne rfl (n208.ne rfl (n203.ne rfl (n202.ne rfl (n201.ne rfl (n200.ne rfl (n198.ne rfl (n197.ne rfl (n186.ne rfl (n169.ne rfl (n168.ne rfl (n167.ne rfl (n165.ne rfl (n160.ne rfl s18I146))))))))))))))))))))))
            have e275 := n265.ne rfl (n264.ne rfl (n222.ne rfl (n221.ne rfl (n220.ne rfl (n217.ne rfl (n215.ne rfl (n214.ne rfl (n211.ne rfl (n210.ne rfl (n208.ne rfl (n203.ne rfl (n202.ne rfl (n201.ne rfl (n200.ne rfl (n198.ne rfl (n197.ne rfl (n186.ne rfl (n169.ne rfl (n168.ne rfl (n167.ne rfl (n165.ne rfl (n160.ne rfl s60I146))))))))))))))))))))))
            have e276 := n265.ne rfl (n264.ne rfl (n222.ne rfl (n221.ne rfl (n220.ne rfl (n217.ne rfl (n215.ne rfl (n214.ne rfl (n211.ne rfl (n210.ne rfl (n208.ne rfl (n203.ne rfl (n202.ne rfl (n201.ne rfl (n200.ne rfl (n198.ne rfl (n197.ne rfl (n186.ne rfl (n169.ne rfl (n168.ne rfl (n167.ne rfl (n165.ne rfl (n160.ne rfl s61I146))))))))))))))))))))))
            exact th_n (hKI146 _ _ _ (by omega) ⟨k + 1, X, rfl, n265.ok, G189, e266, e267, e268, e269, e270, e271, e272, e273, e274, e275, e276, n265.at_, B190, B191, B192, F195, O194, z193, by omega, by omega⟩)
        · have e277 := (n203.at_).trans (congrArg Value.bool (decide_eq_false c204))
          have e278 := ((n203.ne rfl n202.at_)).trans (congrArg Value.bool (decide_eq_false c204))
          refine sn n203.ok rfl (wgF rfl (yl 5 false rfl e277) rfl) rfl (fun an279 n279 => ?_)
          refine sn n279.ok rfl (wgF rfl (yl 5 false rfl (n279.ne rfl e277)) rfl) rfl (fun an280 n280 => ?_)
          refine sn n280.ok rfl (wgF rfl (yl 5 false rfl (n280.ne rfl (n279.ne rfl e277))) rfl) rfl (fun an281 n281 => ?_)
          have e282 := n281.ne rfl (n280.ne rfl (n279.ne rfl e277))
          refine sn n281.ok rfl (wgF rfl (yl 5 false rfl e282) rfl) rfl (fun an283 n283 => ?_)
          refine sn n283.ok rfl (wgF rfl (yl 5 false rfl (n283.ne rfl e282)) rfl) rfl (fun an284 n284 => ?_)
          refine sn n284.ok rfl (wgF rfl (yl 5 false rfl (n284.ne rfl (n283.ne rfl e282))) rfl) rfl (fun an285 n285 => ?_)
          have e286 := n285.ne rfl (n284.ne rfl (n283.ne rfl e282))
          refine sn n285.ok rfl (wgF rfl (yl 5 false rfl e286) rfl) rfl (fun an287 n287 => ?_)
          refine sn n287.ok rfl (wgF rfl (yl 5 false rfl (n287.ne rfl e286)) rfl) rfl (fun an288 n288 => ?_)
          refine sv n288.ok rfl (wn _ rfl) rfl (o_pkF (n288.ne rfl (n287.ne rfl e286)) ev_const) (fun an289 n289 => ?_)
          refine wpList_nil ?_
          refine th_n (hK196 _ _ ?_)
          refine wp_cond_false (n289.at_) ?_
          refine wp_skip ?_
          refine ib_n ?_
          refine th_n (hK163 _ _ ?_)
          refine wp_region_lit ?_
          have e290 := n289.ne rfl (n288.ne rfl (n287.ne rfl (n285.ne rfl (n284.ne rfl (n283.ne rfl (n281.ne rfl (n280.ne rfl (n279.ne rfl (n203.ne rfl (n202.ne rfl (n201.ne rfl (n200.ne rfl (n198.ne rfl (n197.ne rfl (n186.ne rfl (n169.ne rfl (n168.ne rfl (n167.ne rfl (n165.ne rfl (n160.ne rfl s62I146))))))))))))))))))))
          refine sv n289.ok rfl (wn _ rfl) rfl (o_add (r := ((k + 1 : Nat) : Int)) e290 ev_const (by omega) (by omega)) (fun an291 n291 => ?_)
          refine sv n291.ok rfl (wn _ rfl) rfl (o_mv n291.at_) (fun an292 n292 => ?_)
          refine wpList_nil ?_
          have e293 := n292.ne rfl (n291.ne rfl (n289.ne rfl (n288.ne rfl (n287.ne rfl (n285.ne rfl (n284.ne rfl (n283.ne rfl (n281.ne rfl (n280.ne rfl (n279.ne rfl (n203.ne rfl (n202.ne rfl (n201.ne rfl (n200.ne rfl (n198.ne rfl (n197.ne rfl (n186.ne rfl (n169.ne rfl (n168.ne rfl (n167.ne rfl (n165.ne rfl (n160.ne rfl s2I146))))))))))))))))))))))
          have e294 := n292.ne rfl (n291.ne rfl (n289.ne rfl (n288.ne rfl (n287.ne rfl (n285.ne rfl (n284.ne rfl (n283.ne rfl (n281.ne rfl (n280.ne rfl (n279.ne rfl (n203.ne rfl (n202.ne rfl (n201.ne rfl (n200.ne rfl (n198.ne rfl (n197.ne rfl (n186.ne rfl (n169.ne rfl (n168.ne rfl (n167.ne rfl (n165.ne rfl (n160.ne rfl s3I146))))))))))))))))))))))
          have e295 := n292.ne rfl (n291.ne rfl (n289.ne rfl (n288.ne rfl (n287.ne rfl (n285.ne rfl (n284.ne rfl (n283.ne rfl (n281.ne rfl (n280.ne rfl (n279.ne rfl (n203.ne rfl (n202.ne rfl (n201.ne rfl (n200.ne rfl (n198.ne rfl (n197.ne rfl (n186.ne rfl (n169.ne rfl (n168.ne rfl (n167.ne rfl (n165.ne rfl (n160.ne rfl s4I146))))))))))))))))))))))
          have e296 := n292.ne rfl (n291.ne rfl (n289.ne rfl (n288.ne rfl (n287.ne rfl (n285.ne rfl (n284.ne rfl (n283.ne rfl (n281.ne rfl (n280.ne rfl (n279.ne rfl (n203.ne rfl (n202.ne rfl (n201.ne rfl (n200.ne rfl (n198.ne rfl (n197.ne rfl (n186.ne rfl (n169.ne rfl (n168.ne rfl (n167.ne rfl (n165.ne rfl (n160.ne rfl s6I146))))))))))))))))))))))
          have e297 := n292.ne rfl (n291.ne rfl (n289.ne rfl (n288.ne rfl (n287.ne rfl (n285.ne rfl (n284.ne rfl (n283.ne rfl (n281.ne rfl (n280.ne rfl (n279.ne rfl (n203.ne rfl (n202.ne rfl (n201.ne rfl (n200.ne rfl e199))))))))))))))
          have e298 := n292.ne rfl (n291.ne rfl (n289.ne rfl (n288.ne rfl (n287.ne rfl (n285.ne rfl (n284.ne rfl (n283.ne rfl (n281.ne rfl (n280.ne rfl (n279.ne rfl (n203.ne rfl (n202.ne rfl (n201.ne rfl (n200.ne rfl (n198.ne rfl (n197.ne rfl (n186.ne rfl (n169.ne rfl (n168.ne rfl (n167.ne rfl (n165.ne rfl (n160.ne rfl s9I146))))))))))))))))))))))
          have e299 := n292.ne rfl (n291.ne rfl (n289.ne rfl (n288.ne rfl (n287.ne rfl (n285.ne rfl (n284.ne rfl (n283.ne rfl (n281.ne rfl (n280.ne rfl (n279.ne rfl (n203.ne rfl (n202.ne rfl (n201.ne rfl (n200.ne rfl (n198.ne rfl (n197.ne rfl (n186.ne rfl (n169.ne rfl (n168.ne rfl (n167.ne rfl (n165.ne rfl (n160.ne rfl s16I146))))))))))))))))))))))
          have e300 := n292.ne rfl (n291.ne rfl (n289.ne rfl (n288.ne rfl (n287.ne rfl (n285.ne rfl (n284.ne rfl (n283.ne rfl (n281.ne rfl (n280.ne rfl (n279.ne rfl (n203.ne rfl (n202.ne rfl (n201.ne rfl (n200.ne rfl (n198.ne rfl (n197.ne rfl (n186.ne rfl (n169.ne rfl (n168.ne rfl (n167.ne rfl (n165.ne rfl (n160.ne rfl s17I146))))))))))))))))))))))
          have e301 := n292.ne rfl (n291.ne rfl (n289.ne rfl (n288.ne rfl (n287.ne rfl (n285.ne rfl (n284.ne rfl (n283.ne rfl (n281.ne rfl (n280.ne rfl (n279.ne rfl (n203.ne rfl (n202.ne rfl (n201.ne rfl (n200.ne rfl (n198.ne rfl (n197.ne rfl (n186.ne rfl (n169.ne rfl (n168.ne rfl (n167.ne rfl (n165.ne rfl (n160.ne rfl s18I146))))))))))))))))))))))
          have e302 := n292.ne rfl (n291.ne rfl (n289.ne rfl (n288.ne rfl (n287.ne rfl (n285.ne rfl (n284.ne rfl (n283.ne rfl (n281.ne rfl (n280.ne rfl (n279.ne rfl (n203.ne rfl (n202.ne rfl (n201.ne rfl (n200.ne rfl (n198.ne rfl (n197.ne rfl (n186.ne rfl (n169.ne rfl (n168.ne rfl (n167.ne rfl (n165.ne rfl (n160.ne rfl s60I146))))))))))))))))))))))
          have e303 := n292.ne rfl (n291.ne rfl (n289.ne rfl (n288.ne rfl (n287.ne rfl (n285.ne rfl (n284.ne rfl (n283.ne rfl (n281.ne rfl (n280.ne rfl (n279.ne rfl (n203.ne rfl (n202.ne rfl (n201.ne rfl (n200.ne rfl (n198.ne rfl (n197.ne rfl (n186.ne rfl (n169.ne rfl (n168.ne rfl (n167.ne rfl (n165.ne rfl (n160.ne rfl s61I146))))))))))))))))))))))
          exact th_n (hKI146 _ _ _ (by omega) ⟨k + 1, X, rfl, n292.ok, G189, e293, e294, e295, e296, e297, e298, e299, e300, e301, e302, e303, n292.at_, B190, B191, B192, F195, O194, z193, by omega, by omega⟩)
      · refine wp_cond_false ((n160.at_).trans (congrArg Value.bool (decide_eq_false c162))) ?_
        refine wp_exit ?_
        refine th_x ?_
        refine th_x ?_
        refine ib_x ?_
        refine th_n (hK140 _ _ ?_)
        refine wp_seq_k (fun K304 hK304 => ?_)
        refine wp_region_lit ?_
        refine sv n160.ok rfl (wn _ rfl) rfl (o_ldR (n160.ne rfl s9I146) kb127I146 Try.underlying87 rfl (dots_sz X)) (fun an305 n305 => ?_)
        refine sc n305.ok rfl (wn _ rfl) rfl (o_f1 Try.func66 rfl rfl rfl n305.at_) (rform_any X hPI146.ok w158) ?_
        rintro _ w307 ⟨kk, rfl, hkk, g308⟩
        obtain ⟨va1, vc1, ma1, mc1, rfl⟩ := hkk.form
        refine ⟨_, rfl, fun an306 n306 => ?_⟩
        have G309 := GI146.trans g308
        have B310 := kb7I146.gr g308
        have B311 := kb105I146.gr g308
        have B312 := kb127I146.gr g308
        have z313 := Nat.le_trans zbaseI146 g308.size
        have O314 := ow_gr orI146 g308
        have F315 := fpsI146.tk (tks_gr g308)
        refine sv n306.ok rfl (wn _ rfl) rfl (o_mv n306.at_) (fun an316 n316 => ?_)
        refine sv n316.ok rfl (wn _ rfl) rfl (o_ex n316.at_ rfl) (fun an317 n317 => ?_)
        refine sv n317.ok rfl (wn _ rfl) rfl (o_ex (n317.ne rfl n316.at_) rfl) (fun an318 n318 => ?_)
        have e319 := n318.ne rfl (n317.ne rfl (n316.ne rfl (n306.ne rfl (n305.ne rfl (n160.ne rfl s8I146)))))
        refine sv n318.ok rfl (wn _ rfl) rfl (o_fa (z := 2) e319 Try.underlying32 rfl (by kernel_rfl) rfl rfl) (fun an320 n320 => ?_)
        refine ssP (vs := [.slice va1 ((ints (formV (dsX X))).length) vc1, .slice ma1 ((pairs (formM (dsX X))).length) mc1]) (cs' := #[.string (bs (idOf (wi xh96 2))), .int .i64 ((wi xh62 5 : Nat) : Int), .int .i64 (((cv (setC v (wi xh62 5) (((cv v (wi xh62 5))) + 1)) (wi xh62 5)) : Nat) : Int), .int .i64 ((wi xh99 16 : Nat) : Int), .int .i64 ((wi xh101 32 : Nat) : Int), .int .i64 ((wi xh103 1000 : Nat) : Int), .slice va1 ((ints (formV (dsX X))).length) vc1, .slice ma1 ((pairs (formM (dsX X))).length) mc1]) (wn _ rfl) n320.at_ (n320.ne rfl (n318.ne rfl n317.at_)) (by kernel_rfl) B311 rfl (by simp [Value.oneCell']) rfl (fun w321 u322 u322b => ?_)
        have G323 : Gr w w321 := Below.upd G309 l116 u322
        have B324 := B310.upd u322 (Nat.ne_of_lt l115)
        have B325 := B312.upd u322 (Nat.ne_of_gt l131)
        have z326 : base ≤ w321.heap.size := by rw [u322.size]; exact z313
        have O327 := ow_upd_ne O314 u322 l117
        have F328 := F315.tk (tks_upd u322 B311 (by decide))
        have F329 := KnO.tks (hkk.less zbaseI146) (tks_upd u322 B311 (by decide))
        refine wpList_nil ?_
        refine th_n (hK304 _ _ ?_)
        refine wp_region_lit ?_
        have e330 := n320.ne rfl (n318.ne rfl (n317.ne rfl (n316.ne rfl (n306.ne rfl (n305.ne rfl (n160.ne rfl s3I146))))))
        refine sv n320.ok rfl (wn _ rfl) rfl (o_mv e330) (fun an331 n331 => ?_)
        refine sv n331.ok rfl (wn _ rfl) rfl (o_ldR (n331.ne rfl (n320.ne rfl e319)) u322b Try.underlying32 rfl (by kernel_rfl)) (fun an332 n332 => ?_)
        obtain ⟨i333, i333a, i333b, i333c⟩ := info3_of (show (Try.prog.info? 32).map (fun i => (i.zero, i.size)) = some (some (.agg #[.string (bs []), .int .i64 0, .int .i64 0, .int .i64 0, .int .i64 0, .int .i64 0, .slice none 0 0, .slice none 0 0]), 8) by kernel_rfl)
        refine sals (cs := #[.string (bs (idOf (wi xh96 2))), .int .i64 ((wi xh62 5 : Nat) : Int), .int .i64 (((cv (setC v (wi xh62 5) (((cv v (wi xh62 5))) + 1)) (wi xh62 5)) : Nat) : Int), .int .i64 ((wi xh99 16 : Nat) : Int), .int .i64 ((wi xh101 32 : Nat) : Int), .int .i64 ((wi xh103 1000 : Nat) : Int), .slice va1 ((ints (formV (dsX X))).length) vc1, .slice ma1 ((pairs (formM (dsX X))).length) mc1]) n332.ok rfl (wn _ rfl) rfl (o_bs (vs := [(0, .agg #[.string (bs (idOf (wi xh96 2))), .int .i64 ((wi xh62 5 : Nat) : Int), .int .i64 (((cv (setC v (wi xh62 5) (((cv v (wi xh62 5))) + 1)) (wi xh62 5)) : Nat) : Int), .int .i64 ((wi xh99 16 : Nat) : Int), .int .i64 ((wi xh101 32 : Nat) : Int), .int .i64 ((wi xh103 1000 : Nat) : Int), .slice va1 ((ints (formV (dsX X))).length) vc1, .slice ma1 ((pairs (formM (dsX X))).length) mc1])]) (by simp [n332.at_, ev_const]) Try.underlying22 i333a i333b (by rw [i333c]; rfl) (by rw [i333c]; rfl) (by rw [i333c]; kernel_rfl)) (fun an334 w336 b335 W337 n334 => ?_)
        have l338 : b7 < b335 := by rw [W337.eq]; exact B324.lt
        have l339 : b105 < b335 := by rw [W337.eq]; exact u322b.lt
        have l340 : b127 < b335 := by rw [W337.eq]; exact B325.lt
        have l341 : w.heap.size ≤ b335 := by rw [W337.eq]; exact G323.size
        have l342 : ∀ k, Value.ownBlock (.slice ra (R.length) rc) = some k → k < b335 := fun k e => by rw [W337.eq]; exact ow_in O327 k e
        have G343 := G323.trans W337.gr
        have B344 := B324.gr W337.gr
        have B345 := u322b.gr W337.gr
        have B346 := B325.gr W337.gr
        have z347 := Nat.le_trans z326 W337.gr.size
        have O348 := ow_gr O327 W337.gr
        have F349 := F328.tk (tks_gr W337.gr)
        have F350 := KnO.tks F329 (tks_gr W337.gr)
        obtain ⟨y1, hy1⟩ : ∃ y, y = (⟨newV (idOf (wi xh96 2)) (wi xh62 5) ((cv (setC v (wi xh62 5) (((cv v (wi xh62 5))) + 1)) (wi xh62 5))) (wi xh99 16) (wi xh101 32) (wi xh103 1000) (dsX X), va1, vc1, ma1, mc1⟩ : VerI) := ⟨_, rfl⟩
        have hcell : ∀ j u, (encVr y1)[j]? = some u → w336.cell? ⟨b335, 0 + j, none⟩ = some u := by subst hy1; exact fun j u hu => bk_part W337.bk (k := 0) (l := encVr (⟨newV (idOf (wi xh96 2)) (wi xh62 5) ((cv (setC v (wi xh62 5) (((cv v (wi xh62 5))) + 1)) (wi xh62 5))) (wi xh99 16) (wi xh101 32) (wi xh103 1000) (dsX X), va1, vc1, ma1, mc1⟩ : VerI)) (by unfold encVr; simp only [newV]; rfl) j u hu
        have hown1 : OwnVr base w336 y1 := by subst hy1; exact ⟨formV (dsX X), formM (dsX X), (by simp only [newV]), (by simp only [newV]), (by unfold VerI.k; simp only [newV]; exact F350)⟩
        obtain ⟨i351, i351a, i351b, i351c, i351d⟩ := info_of (show (Try.prog.info? 32).map (fun i => (i.zero, i.size, i.bytes)) = some (some (.agg #[.string (bs []), .int .i64 0, .int .i64 0, .int .i64 0, .int .i64 0, .int .i64 0, .slice none 0 0, .slice none 0 0]), 8, 104) by kernel_rfl)
        refine s_app (base := base) (n := R.length) (xs := (flatE encVr R)) (m := 1) (news := encVr y1) n334.ok (wn _ rfl) rfl Try.underlying22 i351a i351b i351c i351d rfl (by omega) (n334.ne rfl (n332.ne rfl n331.at_)) O348 n334.at_ rfl ((fun j u hu => by rw [add_n]; exact hcell j u hu)) (encVr_ok.one y1) (by simp only [maxLen]; omega) (by omega) z347 (fun an352 w353 v354 O357 gg358 n352 => ?_)
        obtain ⟨a355, c356, rfl, c356l⟩ := ow_form O357
        have G359 := Gr.grown G343 gg358 (fun k e => Nat.le_trans l25 (ow_lt O348 k e))
        have B360 := B344.grown gg358 (ow_lt O348) l24
        have B361 := B345.grown_ne gg358 l117
        have B362 := B346.grown_ne gg358 l133
        have B363 := W337.bk.grown_ne gg358 l342
        have z364 := Nat.le_trans z347 gg358.size
        have F365 := F349.tk (tks_grown O348 gg358 (by decide))
        have F366 := hown1.tk (tks_grown O348 gg358 (by decide))
        have O367 : w353.ownsRow base 32 8 (.slice a355 ((R.length + 1)) c356) ((R.length + 1)) ((flatE encVr (R ++ [y1]))) := by have h := O357; rw [← flatE_one (enc := encVr) y1, ← flatE_app] at h; exact h
        have hps368 := F365.snoc F366
        refine sv n352.ok rfl (wn _ rfl) rfl (o_as n352.at_) (fun an369 n369 => ?_)
        refine wpList_nil ?_
        refine ib_n ?_
        refine th_n (hK39 _ _ ?_)
        refine wp_region_lit ?_
        have e370 := n369.ne rfl (n352.ne rfl (n334.ne rfl (n332.ne rfl (n331.ne rfl (n320.ne rfl (n318.ne rfl (n317.ne rfl (n316.ne rfl (n306.ne rfl (n305.ne rfl (n160.ne rfl s18I146)))))))))))
        refine sv n369.ok rfl (wn _ rfl) rfl (o_add (r := ((i + 1 : Nat) : Int)) e370 ev_const (by omega) (by omega)) (fun an371 n371 => ?_)
        refine sv n371.ok rfl (wn _ rfl) rfl (o_mv n371.at_) (fun an372 n372 => ?_)
        refine wpList_nil ?_
        have hcs : ((cv (setC v (wi xh62 5) (((cv v (wi xh62 5))) + 1)) (wi xh62 5))) = cv v (wi xh62 5) + 1 := by rw [cv_setC _ _ _ _ (wi_lt _ 5 (by omega)) (wi_lt _ 5 (by omega)), if_pos rfl]
        have e373 := n372.ne rfl (n371.ne rfl (n369.ne rfl (n352.ne rfl (n334.ne rfl (n332.ne rfl (n331.ne rfl (n320.ne rfl (n318.ne rfl (n317.ne rfl (n316.ne rfl (n306.ne rfl (n305.ne rfl (n160.ne rfl s2I146)))))))))))))
        have e374 := n372.ne rfl (n371.ne rfl (n369.ne rfl (n352.ne rfl (n334.ne rfl (n332.ne rfl (n331.ne rfl (n320.ne rfl (n318.ne rfl (n317.ne rfl (n316.ne rfl (n306.ne rfl (n305.ne rfl (n160.ne rfl s4I146)))))))))))))
        have e375 := n372.ne rfl (n371.ne rfl (n369.ne rfl (n352.ne rfl (n334.ne rfl (n332.ne rfl (n331.ne rfl (n320.ne rfl (n318.ne rfl (n317.ne rfl (n316.ne rfl (n306.ne rfl (n305.ne rfl (n160.ne rfl s16I146)))))))))))))
        have e376 := n372.ne rfl (n371.ne rfl (n369.ne rfl (n352.ne rfl (n334.ne rfl (n332.ne rfl (n331.ne rfl (n320.ne rfl (n318.ne rfl (n317.ne rfl (n316.ne rfl (n306.ne rfl (n305.ne rfl (n160.ne rfl s17I146)))))))))))))
        exact th_n (hKI28 _ _ _ (by omega) ⟨i + 1, R ++ [y1], (setC v (wi xh62 5) (cv v (wi xh62 5) + 1)), a355, c356, rfl, n372.ok, G359, e373, (by simpa using (n372.ne rfl (n371.ne rfl n369.at_))), e374, e375, e376, n372.at_, B360, hps368, (by simpa using O367), z364, by omega, by rw [List.map_append, hy1]; simp only [List.map_cons, List.map_nil]; rw [hcs]; exact ToldV.snoc hTI28 (fun s hs => Nat.le_trans (hvI28 s hs) (by omega)) (wi_lt _ 5 (by omega)) (idOf_ok _) (wi_lt _ 16 (by omega)) (wi_lt _ 32 (by omega)) (by have := wi_lt xh103 1000 (by omega); omega) hPI146 (PastOf.few hTI28 hPI146 (by omega)), sum_set (wi_lt _ 5 (by omega)) hsI28, (by rw [List.length_append, List.length_singleton]; omega)⟩)
  · refine wp_cond_false ((n36.at_).trans (congrArg Value.bool (decide_eq_false c38))) ?_
    refine wp_exit ?_
    refine th_x ?_
    refine th_x ?_
    refine ib_x ?_
    refine th_n (hK12 _ _ ?_)
    refine wp_seq_k (fun K377 hK377 => ?_)
    refine wp_region_lit ?_
    refine sv n36.ok rfl (wn _ rfl) rfl (o_mv (n36.ne rfl s3I28)) (fun an378 n378 => ?_)
    refine sv n378.ok rfl (wn _ rfl) rfl (o_as n378.at_) (fun an379 n379 => ?_)
    refine wpList_nil ?_
    refine th_n (hK377 _ _ ?_)
    refine wp_ret ?_
    exact ret1 n379.ok rfl (n379.at_) ⟨R, ra, rc, v, rfl, hTI28, (fun s hs => Nat.le_trans (cv_sum hsI28 s hs) (by omega)), (by omega), RdA.own encVr_ok orI28 rfl, fpsI28.mean, ow_capf orI28, GI28⟩
theorem told_any (v : Value) (L : List (List Int)) (w : World) (h : RdLL w v L) : Calls Try.prog 23 #[v] w fun e w' => ∃ (R : List VerI) (a : Option Addr) (c : Nat) (v : List Nat), e = .returned (.slice a R.length c) ∧ ToldV v (R.map VerI.d) ∧ (∀ s, s < 5 → cv v s ≤ 20) ∧ R.length ≤ 20 ∧ RdA encVr 8 w' a R ∧ MeansV w' R ∧ (R.length ≤ c ∧ (a = none → c = 0)) ∧ Gr w w' := by
  obtain ⟨a, c, rfl, hc, h⟩ := h
  exact told_k a c L hc w h
end Go.Proofs.Ytoencnbpjjkjnaa

/- What drops and a put behind them leave. -/
set_option linter.unusedVariables false
set_option linter.unusedSimpArgs false
namespace Rm
open Go Go.RowKit Gx
/-- what was told stays below -/
theorem ToldV.low {v : List Nat} {T : List VerD} (hT : ToldV v T) (hv : ∀ s, s < 5 → cv v s ≤ 20) {x : VerD} (hx : x ∈ T) : x.c ≤ 20 ∧ ∀ s, dsV x s 900 = false := by
  refine ⟨?_, fun s => ?_⟩
  · obtain ⟨s, c, h1, h2, h3, h4, h5⟩ := hT.cnt x hx
    have := hv s h3
    omega
  · cases q : dsV x s 900
    · rfl
    · obtain ⟨y, hy, -, e1, e2⟩ := hT.from_ x hx s 900 q
      obtain ⟨a, c, h1, h2, h3, h4, h5⟩ := hT.cnt y hy
      have := hv a h3
      omega
end Rm
namespace Go.Proofs.Ytoencnbpjjkjnaa
open Go.RowKit Rm Gx
end Go.Proofs.Ytoencnbpjjkjnaa

/- The contracts of slices.Grow at nil and of slices.Concat, over versions. -/
namespace Go.Proofs.Ytoencnbpjjkjnaa
open Go.RowKit Rm Gx
set_option linter.unusedVariables false

theorem ccv_info : (Try.prog.info? 32).map (fun i => (i.zero, i.size, i.bytes)) = some (some (.agg #[.string (bs []), .int .i64 0, .int .i64 0, .int .i64 0, .int .i64 0, .int .i64 0, .slice none 0 0, .slice none 0 0]), 8, 104) := by kernel_rfl
theorem own_formV {w : World} {base : Nat} {e : TypeId} {s n : Nat} {v : Value} {xs : List Value} (h : w.ownsRow base e s v n xs) : ∃ a c, v = .slice a n c ∧ n ≤ c := by
  rcases h.2 with ⟨rfl, rfl⟩ | ⟨g, cap, cur, rfl, _, _, hn, _⟩
  · exact ⟨none, 0, rfl, Nat.le_refl _⟩
  · exact ⟨_, cap, rfl, hn⟩
/-- an empty slice with room, in new memory -/
def RoomV (w w' : World) (v : Value) : Prop := Gr w w' ∧ w'.ownsRow w.heap.size 32 8 v 0 []

set_option maxHeartbeats 1000000 in
set_option maxRecDepth 100000 in
theorem growV_nil (n : Nat) (w : World) (hn : n ≤ 1000) :
    Calls Try.prog 67 #[.slice none 0 0, .int .i64 (n : Int)] w fun e w' => ∃ v, e = .returned v ∧ RoomV w w' v := by
  obtain ⟨i0, hi0, hz0, hz1, hz2⟩ := info_parts ccv_info
  by_cases h0 : n = 0
  · subst h0
    go_enter Try.func67, Try.ntmps67
    go_wp2
    go_ret
    exact ⟨_, rfl, Gr.refl _, World.ownsRow_nil _ _ _ _⟩
  · have hold : (Builtin.firstCells i0.size 0 (.slice none 0 0)).run Try.prog w.drew = .ok ([] : List Value).toArray w.drew := run_firstCells_none w.drew i0.size 0 0 0
    have hrz : ∀ ty, (Builtin.append_ #[22, 3] ty #[.slice none 0 0, .int .i64 (n : Int)]).run Try.prog w = _ := fun ty =>
      Lib.run_append_grow_zeros w 22 3 ty 32 i0 _ .i64 .i64 Try.underlying22 Try.underlying3 hi0 hz0 none 0 0 [] hold n (by omega) (by rw [hz1]; omega) (by omega) (by omega)
        (by rw [hz2]; omega) (by rw [hz2]; exact growslice_fits (by omega) (by omega))
    have HRZ := Lib.hid hrz
    have hGn : 0 + n ≤ grownCap w (0 + n) 0 32 := grownCap_ge w _ _ _
    have hGm : grownCap w (0 + n) 0 32 ≤ maxLen := grownCap_le_maxLen w (0 + n) 0 32 (by unfold maxLen; omega)
    rw [Nat.zero_add] at hGn hGm
    have h1 : (0 : Int) < (n : Int) := by omega
    have h2 : ¬ ((n : Int) < 0) := by omega
    clear hold hrz hz0 hi0
    go_enter Try.func67, Try.ntmps67
    go_wp2_with (at_builtin; refine Lib.wpList_append_run _ rfl _ _ _ _ rfl _ _ rfl rfl _ _ (HRZ.out _) ?_)
    go_ret
    refine ⟨_, rfl, ((Gr.refl w).drew).alloc _, ?_⟩
    have hb : w.heap.size ≤ w.drew.heap.size := Nat.le_refl _
    refine World.ownsRow_made (base := w.heap.size) (e := 32) (size := 8) w.drew _ _ hb hGm ?_
    simp only [Array.size_append, size_zeroCells]
    show n * 8 + (grownCap w n 0 32 - n) * 8 = grownCap w n 0 32 * 8
    omega

/-- what is handed to Concat: the lengths and the cells of each slice -/
def SrcV (w : World) (bb : Nat) (X : List (Nat × List Value)) : Prop :=
  bb < w.heap.size ∧ ∀ i p, X[i]? = some p → ∃ v, w.cell? ⟨bb, i, none⟩ = some v ∧ RdC 8 w v p.1 p.2
def sumV (X : List (Nat × List Value)) : Nat := (X.map (·.1)).sum
def catV (X : List (Nat × List Value)) : List Value := (X.map (·.2)).flatten
theorem sumV_take {X : List (Nat × List Value)} {k : Nat} {p : Nat × List Value} (h : X[k]? = some p) : sumV (X.take (k + 1)) = sumV (X.take k) + p.1 := by
  obtain ⟨hk, e⟩ := List.getElem?_eq_some_iff.1 h
  rw [List.take_succ_eq_append_getElem hk, e]
  simp [sumV]
theorem catV_take {X : List (Nat × List Value)} {k : Nat} {p : Nat × List Value} (h : X[k]? = some p) : catV (X.take (k + 1)) = catV (X.take k) ++ p.2 := by
  obtain ⟨hk, e⟩ := List.getElem?_eq_some_iff.1 h
  rw [List.take_succ_eq_append_getElem hk, e]
  simp [catV]
theorem sumV_app (a b : List (Nat × List Value)) : sumV (a ++ b) = sumV a + sumV b := by simp [sumV]
theorem sumV_le (X : List (Nat × List Value)) (k : Nat) : sumV (X.take k) ≤ sumV X := by
  have h := sumV_app (X.take k) (X.drop k)
  rw [List.take_append_drop] at h
  omega

set_option maxHeartbeats 2000000 in
set_option maxRecDepth 100000 in
theorem concatV (X : List (Nat × List Value)) (bb cap : Nat) (w : World) (hX : SrcV w bb X) (hs : sumV X ≤ 1000) (hl : X.length ≤ 10) :
    Calls Try.prog 26 #[.slice (some ⟨bb, 0, none⟩) X.length cap] w fun e w' => ∃ v, e = .returned v ∧ Gr w w' ∧ w'.ownsRow w.heap.size 32 8 v (sumV X) (catV X) := by
  obtain ⟨i0, hi0, hz0, hz1, hz2⟩ := info_parts ccv_info
  have HX := Lib.hid hX
  have HSL := Lib.hid (sumV_le X)
  have hl' : (X.length : Int) ≤ 10 := by omega
  have hbb := hX.1
  clear hX
  go_enter Try.func26, Try.ntmps26
  go_wp2
  go_loop [3, 11] (fun a i => ∃ k : Nat, k ≤ X.length ∧ i = .int .i64 k ∧ a = .int .i64 (sumV (X.take k) : Nat)) (fun _ i => X.length - (intOf i).toNat)
  case atStart => exact ⟨0, by omega, rfl, rfl⟩
  case round =>
    obtain ⟨k, hk, rfl, rfl⟩ := hrel
    by_cases hlt : k < X.length
    · obtain ⟨p, hp⟩ : ∃ p, X[k]? = some p := ⟨_, List.getElem?_eq_getElem hlt⟩
      obtain ⟨v0, c1, pl, p1, hv0⟩ := HX.out.2 k p hp
      have HS := Lib.hid (sumV_take hp)
      have hs1 := HSL.out (k + 1)
      have hs2 : sumV (X.take k) + p.1 ≤ 1000 := by rw [← sumV_take hp]; omega
      have hk10 : (k : Int) < 10 := by omega
      obtain ⟨ao, c, rfl⟩ : ∃ ao c, v0 = .slice ao p.1 c := by
        rcases hv0 with ⟨rfl, z⟩ | ⟨ad, c, rfl, _⟩
        · exact ⟨none, 0, by rw [z]⟩
        · exact ⟨some ad, c, rfl⟩
      clear hp hs1 hv0
      generalize sumV (X.take k) = sk at *
      have hs3 : (sk : Int) + (p.1 : Int) ≤ 1000 := by omega
      have hs4 : ¬ ((sk : Int) + (p.1 : Int) < 0) := by omega
      go_wp2_with fail
      go_round
      case rel => exact ⟨k + 1, by omega, by go_num, by rw [HS.out]; simp⟩
      case measure => simp [intOf]; omega
    · obtain rfl : k = X.length := by omega
      rw [List.take_length]
      go_wp2_with fail
      refine (growV_nil (sumV X) _ hs).mono ?_
      rintro e w1 ⟨v, rfl, hg1, ho1⟩
      have HO1 := Lib.hid ho1
      have HG1 := Lib.hid hg1
      clear hg1 ho1
      go_wp2_with fail
      go_loopw [6, 27] (fun v i wr => ∃ k : Nat, k ≤ X.length ∧ i = .int .i64 k ∧ Gr w wr ∧ wr.ownsRow w.heap.size 32 8 v (sumV (X.take k)) (catV (X.take k))) (fun _ i _ => X.length - (intOf i).toNat)
      case atStart => exact ⟨0, by omega, rfl, HG1.out, HO1.out⟩
      case round =>
        obtain ⟨k, hk, rfl, hg, hown⟩ := hrel
        by_cases hlt : k < X.length
        · obtain ⟨p, hp⟩ : ∃ p, X[k]? = some p := ⟨_, List.getElem?_eq_getElem hlt⟩
          obtain ⟨v0, c1, hv0⟩ := HX.out.2 k p hp
          obtain ⟨pl, p1, ⟨rfl, z1⟩ | ⟨ad, c, rfl, hnc, hb, hc⟩⟩ := hv0.gr hg
          · rw [← hg.cells.1 bb _ hbb] at c1
            have HS := Lib.hid (sumV_take hp)
            have HC := Lib.hid (catV_take hp)
            have z2 : p.2 = [] := List.eq_nil_of_length_eq_zero (by simp [pl, z1])
            rw [z1] at HS
            rw [z2] at HC
            have hk10 : (k : Int) < 10 := by omega
            have HO := Lib.hid hown
            obtain ⟨va, vc, rfl, hvc⟩ := own_formV hown
            clear hp hown z1 z2 hv0 pl p1
            go_wp2_with (at_builtin; refine wpList_append_own_none rfl (.tmp 31) (.tmp 32) 22 rfl w.heap.size 32 i0 8 Try.underlying22 hi0 _ _ _ rfl HO.out rfl ?_)
            go_roundw
            case rel => exact ⟨k + 1, by omega, by go_num, hg, by rw [HS.out, HC.out, List.append_nil]; exact HO.out⟩
            case measure => simp [intOf]; omega
          · rw [← hg.cells.1 bb _ hbb] at c1
            have HP := Lib.hid hc
            have HS := Lib.hid (sumV_take hp)
            have HC := Lib.hid (catV_take hp)
            have hs1 := HSL.out (k + 1)
            have hs2 : sumV (X.take k) + p.1 ≤ 1000 := by rw [← sumV_take hp]; omega
            have hk10 : (k : Int) < 10 := by omega
            have HPL := Lib.hid pl
            have HP1 := Lib.hid p1
            have HO := Lib.hid hown
            obtain ⟨va, vc, rfl, hvc⟩ := own_formV hown
            clear hp hs1 hc pl p1 hown hv0 hb
            generalize sumV (X.take k) = sk at *
            go_wp2_with (at_builtin; refine wpList_append_own _ rfl (.tmp 31) (.tmp 32) 22 rfl w.heap.size 32 i0 _ 8 104 Try.underlying22 hi0 hz0 hz1 hz2 rfl (by omega) _ _ _ rfl HO.out ad p.1 c p.2 rfl HPL.out HP.out HP1.out (by simp only [maxLen]; omega) (by omega) hg.le ?_; intro v1 w2 hown hg1 _)
            go_roundw
            case rel => exact ⟨k + 1, by omega, by go_num, hg.grown hg1 (fun k hk => (HO.out.lt k hk).1), by rw [HS.out, HC.out]; exact hown⟩
            case measure => simp [intOf]; omega
        · obtain rfl : k = X.length := by omega
          rw [List.take_length] at hown
          go_wp2_with fail
          go_ret
          exact ⟨_, rfl, hg, hown⟩
end Go.Proofs.Ytoencnbpjjkjnaa

/- slices.Clone, Concat, Reverse at versions; reedref.Over; the closures of ShelfOrder. -/
set_option linter.unusedVariables false
set_option linter.unusedSimpArgs false
namespace Gx
open Go Go.RowKit Rm
section
variable {P : Program} {ops : Array Oper} {Q : Exit → Act → World → Prop} {N : Nat} {S : World → Prop}
variable {E : Type} {enc : E → List Value} {s : Nat}
/-- where a part of a slice begins -/
def offA (a : Option Addr) (c k s : Nat) : Option Addr := a.map fun p => if c = k then p else p.add (k * s)
end
section
variable {P : Program} {ev : Operand → Value} {d : Option Tmp} {ty : TypeId} {p : String} {af : Array Edge} {g : Option (Nat × Bool)} {w : World}
theorem o_cutA {T E : TypeId} {x y : Operand} {a : Option Addr} {n c k s m : Nat} (hx : ev x = .slice a n c) (hy : ev y = .int .i64 (k : Int)) (hu : P.underlying T = some (.slice E)) (hs : (P.info? E).map (·.size) = some s) (hk : k ≤ n) (hc : n ≤ c) (hn : a = none → c = 0) (hm : m = n - k) : (execOp ev (Oper.mk d (.slice T x (some y) none none) ty p af g)).run P w = .ok (.value (.slice (offA a c k s) m (c - k))) w := by
  subst hm
  have h1 := size_of hs w
  have hi' : (0 : Int) ≤ (k : Int) ∧ (k : Int) ≤ (n : Int) := by omega
  cases a with
  | none =>
    have h0 := hn rfl
    subst h0
    obtain rfl : n = 0 := by omega
    obtain rfl : k = 0 := by omega
    unfold execOp
    simp only [hx, hy, Option.map_none, Option.map_some, Instr.sliceAt, Instr.slice, Instr.sliceBounds, Instr.sliceBound, asIntOf, Sem.run_bind, run_underlying hu w, Sem.run_pure, Result.andThen_ok, h1, if_pos hi', Int.toNat_natCast]
    simp [go_sem, offA]
  | some ad =>
    unfold execOp
    simp only [hx, hy, Option.map_none, Option.map_some, Instr.sliceAt, Instr.slice, Instr.sliceBounds, Instr.sliceBound, asIntOf, Sem.run_bind, run_underlying hu w, Sem.run_pure, Result.andThen_ok, h1, if_pos hi', Int.toNat_natCast, offA]
    split <;> simp_all [go_sem]
theorem o_cutT {T E : TypeId} {x y : Operand} {a : Option Addr} {n c k s m : Nat} (hx : ev x = .slice a n c) (hy : ev y = .int .i64 (k : Int)) (hu : P.underlying T = some (.slice E)) (hs : (P.info? E).map (·.size) = some s) (hk : k ≤ c) (hm : m = k) : (execOp ev (Oper.mk d (.slice T x none (some y) none) ty p af g)).run P w = .ok (.value (.slice a m c)) w := by
  subst hm
  exact o_cut hx hy hu hs hk
theorem RdA.drop {E : Type} {enc : E → List Value} {s : Nat} {a : Option Addr} {K : List E} {c k : Nat} (h : RdA enc s w a K) (hc : K.length ≤ c) : RdA enc s w (offA a c k s) (K.drop k) := fun hn => by
  have hk : k < K.length := by
    rcases Nat.lt_or_ge k K.length with q | q
    · exact q
    · exact absurd (List.drop_eq_nil_of_le q) hn
  obtain ⟨b, off, rfl, hb, hx⟩ := h (fun q => by rw [q] at hk; simp at hk)
  refine ⟨b, off + k * s, ?_, hb, fun i x hi j u hu => ?_⟩
  · unfold offA
    rw [Option.map_some, if_neg (by omega), add_n]
  · rw [List.getElem?_drop] at hi
    have := hx (k + i) x hi j u hu
    rw [Nat.add_mul] at this
    rw [show off + k * s + i * s + j = off + (k * s + i * s) + j by omega]
    exact this
theorem RdA.take {E : Type} {enc : E → List Value} {s : Nat} {a : Option Addr} {K : List E} {k : Nat} (h : RdA enc s w a K) : RdA enc s w a (K.take k) := fun hn => by
  obtain ⟨b, off, e, hb, hx⟩ := h (fun q => hn (by rw [q, List.take_nil]))
  refine ⟨b, off, e, hb, fun i x hi j u hu => hx i x ?_ j u hu⟩
  have hl := (List.getElem?_eq_some_iff.1 hi).1
  rw [List.length_take] at hl
  rwa [List.getElem?_take_of_lt (by omega)] at hi
theorem flatE_invV {E : Type} {enc : E → List Value} {s : Nat} (h : EncOk enc s) : ∀ (K : List E) (j : Nat) (u : Value), (flatE enc K)[j]? = some u → ∃ i x r, K[i]? = some x ∧ (enc x)[r]? = some u ∧ j = i * s + r := by
  intro K
  induction K with
  | nil => intro j u hj; simp [flatE] at hj
  | cons a K ih =>
    intro j u hj
    have e : flatE enc (a :: K) = enc a ++ flatE enc K := by simp [flatE]
    rw [e] at hj
    by_cases q : j < (enc a).length
    · rw [List.getElem?_append_left q] at hj
      exact ⟨0, a, j, by simp, hj, by omega⟩
    · rw [List.getElem?_append_right (by omega)] at hj
      obtain ⟨i, x, r, h1, h2, h3⟩ := ih _ _ hj
      rw [h.len] at q h3
      exact ⟨i + 1, x, r, by simpa using h1, h2, by rw [Nat.add_mul]; omega⟩
end
end Gx
namespace Go.Proofs.Ytoencnbpjjkjnaa
open Go.RowKit Rm Gx
theorem rdc_ofV {E : Type} {enc : E → List Value} {s : Nat} (h : EncOk enc s) {w : World} {a : Option Addr} {K : List E} {c : Nat} (hr : RdA enc s w a K) (hc : K.length ≤ c) (hn : a = none → c = 0) : RdC s w (.slice a K.length c) K.length (flatE enc K) := by
  refine ⟨flatE_len h K, flatE_ones h K, ?_⟩
  cases a with
  | none =>
    have := hn rfl
    subst this
    have : K.length = 0 := by omega
    exact .inl ⟨by rw [this], this⟩
  | some ad =>
    refine .inr ⟨ad, c, rfl, hc, fun h0 => ?_, fun j u hj => ?_⟩
    · obtain ⟨b, off, e, hb, -⟩ := hr (by intro q; rw [q] at h0; exact h0 rfl)
      injection e with e
      subst e
      exact hb
    · obtain ⟨i, x, r, h1, h2, rfl⟩ := flatE_invV h K j u hj
      obtain ⟨b, off, e, hb, hx⟩ := hr (by intro q; rw [q] at h1; simp at h1)
      injection e with e
      subst e
      rw [add_n, show off + (i * s + r) = off + i * s + r by omega]
      exact hx i x h1 r u h2
theorem concatV2 (K L : List VerI) (va vb : Option Addr) (vc vd b : Nat) (t : TypeId) (w : World) (hl : K.length ≤ 100) (hl' : L.length ≤ 100) (hc : K.length ≤ vc) (hc' : L.length ≤ vd) (hn : va = none → vc = 0) (hn' : vb = none → vd = 0)
    (hv : RdA encVr 8 w va K) (hv' : RdA encVr 8 w vb L) (hb : Bk w b #[.slice va K.length vc, .slice vb L.length vd] t) :
    Calls Try.prog 26 #[.slice (some ⟨b, 0, none⟩) 2 2] w fun e w' => ∃ a c, e = .returned (.slice a (K ++ L).length c) ∧ RdA encVr 8 w' a (K ++ L) ∧ Gr w w' := by
  have hS : SrcV w b [(K.length, flatE encVr K), (L.length, flatE encVr L)] := by
    refine ⟨hb.lt, fun i p hp => ?_⟩
    match i, hp with
    | 0, hp =>
      simp at hp; subst hp
      exact ⟨_, hb.cell 0 rfl, rdc_ofV encVr_ok hv hc hn⟩
    | 1, hp =>
      simp at hp; subst hp
      exact ⟨_, hb.cell 1 rfl, rdc_ofV encVr_ok hv' hc' hn'⟩
    | i + 2, hp => simp at hp
  refine (concatV _ b 2 w hS (by simp [sumV]; omega) (by simp)).mono ?_
  rintro e w' ⟨v, rfl, g, h⟩
  have e1 : sumV [(K.length, flatE encVr K), (L.length, flatE encVr L)] = (K ++ L).length := by simp [sumV] <;> omega
  have e2 : catV [(K.length, flatE encVr K), (L.length, flatE encVr L)] = flatE encVr (K ++ L) := by simp [catV, flatE_app]
  rw [e1, e2] at h
  obtain ⟨a, c, rfl, -⟩ := ow_form h
  exact ⟨a, c, rfl, RdA.own encVr_ok h rfl, g⟩

theorem means_sub {w : World} {K L : List VerI} (h : MeansV w L) (hs : ∀ x ∈ K, x ∈ L) : MeansV w K := fun x hx => h x (hs x hx)
end Go.Proofs.Ytoencnbpjjkjnaa

/- The contracts of slices.Grow at nil and of slices.Concat, over rows of integers. -/
namespace Go.Proofs.Ytoencnbpjjkjnaa
open Go.RowKit Rm
set_option linter.unusedVariables false

theorem ccr_info : (Try.prog.info? 27).map (fun i => (i.zero, i.size, i.bytes)) = some (some (.slice none 0 0), 1, 24) := by kernel_rfl
theorem own_formR {w : World} {base : Nat} {e : TypeId} {s n : Nat} {v : Value} {xs : List Value} (h : w.ownsRow base e s v n xs) : ∃ a c, v = .slice a n c ∧ n ≤ c := by
  rcases h.2 with ⟨rfl, rfl⟩ | ⟨g, cap, cur, rfl, _, _, hn, _⟩
  · exact ⟨none, 0, rfl, Nat.le_refl _⟩
  · exact ⟨_, cap, rfl, hn⟩
/-- an empty slice with room, in new memory -/
def RoomR (w w' : World) (v : Value) : Prop := Gr w w' ∧ w'.ownsRow w.heap.size 27 1 v 0 []

set_option maxHeartbeats 1000000 in
set_option maxRecDepth 100000 in
theorem growR_nil (n : Nat) (w : World) (hn : n ≤ 5864062014805) :
    Calls Try.prog 78 #[.slice none 0 0, .int .i64 (n : Int)] w fun e w' => ∃ v, e = .returned v ∧ RoomR w w' v := by
  obtain ⟨i0, hi0, hz0, hz1, hz2⟩ := info_parts ccr_info
  by_cases h0 : n = 0
  · subst h0
    go_enter Try.func78, Try.ntmps78
    go_wp2
    go_ret
    exact ⟨_, rfl, Gr.refl _, World.ownsRow_nil _ _ _ _⟩
  · have hold : (Builtin.firstCells i0.size 0 (.slice none 0 0)).run Try.prog w.drew = .ok ([] : List Value).toArray w.drew := run_firstCells_none w.drew i0.size 0 0 0
    have hrz : ∀ ty, (Builtin.append_ #[45, 3] ty #[.slice none 0 0, .int .i64 (n : Int)]).run Try.prog w = _ := fun ty =>
      Lib.run_append_grow_zeros w 45 3 ty 27 i0 _ .i64 .i64 Try.underlying45 Try.underlying3 hi0 hz0 none 0 0 [] hold n (by omega) (by rw [hz1]; omega) (by omega) (by omega)
        (by rw [hz2]; omega) (by rw [hz2]; exact growslice_fits (by omega) (by omega))
    have HRZ := Lib.hid hrz
    have hGn : 0 + n ≤ grownCap w (0 + n) 0 27 := grownCap_ge w _ _ _
    have hGm : grownCap w (0 + n) 0 27 ≤ maxLen := grownCap_le_maxLen w (0 + n) 0 27 (by unfold maxLen; omega)
    rw [Nat.zero_add] at hGn hGm
    have h1 : (0 : Int) < (n : Int) := by omega
    have h2 : ¬ ((n : Int) < 0) := by omega
    clear hold hrz hz0 hi0
    go_enter Try.func78, Try.ntmps78
    go_wp2_with (at_builtin; refine Lib.wpList_append_run _ rfl _ _ _ _ rfl _ _ rfl rfl _ _ (HRZ.out _) ?_)
    go_ret
    refine ⟨_, rfl, ((Gr.refl w).drew).alloc _, ?_⟩
    have hb : w.heap.size ≤ w.drew.heap.size := Nat.le_refl _
    refine World.ownsRow_made (base := w.heap.size) (e := 27) (size := 1) w.drew _ _ hb hGm ?_
    simp only [Array.size_append, size_zeroCells]
    show n * 1 + (grownCap w n 0 27 - n) * 1 = grownCap w n 0 27 * 1
    omega

/-- what is handed to Concat: the lengths and the cells of each slice -/
def SrcR (w : World) (bb : Nat) (X : List (Nat × List Value)) : Prop :=
  bb < w.heap.size ∧ ∀ i p, X[i]? = some p → ∃ v, w.cell? ⟨bb, i, none⟩ = some v ∧ RdC 1 w v p.1 p.2
def sumR (X : List (Nat × List Value)) : Nat := (X.map (·.1)).sum
def catR (X : List (Nat × List Value)) : List Value := (X.map (·.2)).flatten
theorem sumR_take {X : List (Nat × List Value)} {k : Nat} {p : Nat × List Value} (h : X[k]? = some p) : sumR (X.take (k + 1)) = sumR (X.take k) + p.1 := by
  obtain ⟨hk, e⟩ := List.getElem?_eq_some_iff.1 h
  rw [List.take_succ_eq_append_getElem hk, e]
  simp [sumR]
theorem catR_take {X : List (Nat × List Value)} {k : Nat} {p : Nat × List Value} (h : X[k]? = some p) : catR (X.take (k + 1)) = catR (X.take k) ++ p.2 := by
  obtain ⟨hk, e⟩ := List.getElem?_eq_some_iff.1 h
  rw [List.take_succ_eq_append_getElem hk, e]
  simp [catR]
theorem sumR_app (a b : List (Nat × List Value)) : sumR (a ++ b) = sumR a + sumR b := by simp [sumR]
theorem sumR_le (X : List (Nat × List Value)) (k : Nat) : sumR (X.take k) ≤ sumR X := by
  have h := sumR_app (X.take k) (X.drop k)
  rw [List.take_append_drop] at h
  omega

set_option maxHeartbeats 2000000 in
set_option maxRecDepth 100000 in
theorem concatR (X : List (Nat × List Value)) (bb cap : Nat) (w : World) (hX : SrcR w bb X) (hs : sumR X ≤ 5864062014805) (hl : X.length ≤ 10) :
    Calls Try.prog 39 #[.slice (some ⟨bb, 0, none⟩) X.length cap] w fun e w' => ∃ v, e = .returned v ∧ Gr w w' ∧ w'.ownsRow w.heap.size 27 1 v (sumR X) (catR X) := by
  obtain ⟨i0, hi0, hz0, hz1, hz2⟩ := info_parts ccr_info
  have HX := Lib.hid hX
  have HSL := Lib.hid (sumR_le X)
  have hl' : (X.length : Int) ≤ 10 := by omega
  have hbb := hX.1
  clear hX
  go_enter Try.func39, Try.ntmps39
  go_wp2
  go_loop [3, 11] (fun a i => ∃ k : Nat, k ≤ X.length ∧ i = .int .i64 k ∧ a = .int .i64 (sumR (X.take k) : Nat)) (fun _ i => X.length - (intOf i).toNat)
  case atStart => exact ⟨0, by omega, rfl, rfl⟩
  case round =>
    obtain ⟨k, hk, rfl, rfl⟩ := hrel
    by_cases hlt : k < X.length
    · obtain ⟨p, hp⟩ : ∃ p, X[k]? = some p := ⟨_, List.getElem?_eq_getElem hlt⟩
      obtain ⟨v0, c1, pl, p1, hv0⟩ := HX.out.2 k p hp
      have HS := Lib.hid (sumR_take hp)
      have hs1 := HSL.out (k + 1)
      have hs2 : sumR (X.take k) + p.1 ≤ 5864062014805 := by rw [← sumR_take hp]; omega
      have hk10 : (k : Int) < 10 := by omega
      obtain ⟨ao, c, rfl⟩ : ∃ ao c, v0 = .slice ao p.1 c := by
        rcases hv0 with ⟨rfl, z⟩ | ⟨ad, c, rfl, _⟩
        · exact ⟨none, 0, by rw [z]⟩
        · exact ⟨some ad, c, rfl⟩
      clear hp hs1 hv0
      generalize sumR (X.take k) = sk at *
      have hs3 : (sk : Int) + (p.1 : Int) ≤ 5864062014805 := by omega
      have hs4 : ¬ ((sk : Int) + (p.1 : Int) < 0) := by omega
      go_wp2_with fail
      go_round
      case rel => exact ⟨k + 1, by omega, by go_num, by rw [HS.out]; simp⟩
      case measure => simp [intOf]; omega
    · obtain rfl : k = X.length := by omega
      rw [List.take_length]
      go_wp2_with fail
      refine (growR_nil (sumR X) _ hs).mono ?_
      rintro e w1 ⟨v, rfl, hg1, ho1⟩
      have HO1 := Lib.hid ho1
      have HG1 := Lib.hid hg1
      clear hg1 ho1
      go_wp2_with fail
      go_loopw [6, 27] (fun v i wr => ∃ k : Nat, k ≤ X.length ∧ i = .int .i64 k ∧ Gr w wr ∧ wr.ownsRow w.heap.size 27 1 v (sumR (X.take k)) (catR (X.take k))) (fun _ i _ => X.length - (intOf i).toNat)
      case atStart => exact ⟨0, by omega, rfl, HG1.out, HO1.out⟩
      case round =>
        obtain ⟨k, hk, rfl, hg, hown⟩ := hrel
        by_cases hlt : k < X.length
        · obtain ⟨p, hp⟩ : ∃ p, X[k]? = some p := ⟨_, List.getElem?_eq_getElem hlt⟩
          obtain ⟨v0, c1, hv0⟩ := HX.out.2 k p hp
          obtain ⟨pl, p1, ⟨rfl, z1⟩ | ⟨ad, c, rfl, hnc, hb, hc⟩⟩ := hv0.gr hg
          · rw [← hg.cells.1 bb _ hbb] at c1
            have HS := Lib.hid (sumR_take hp)
            have HC := Lib.hid (catR_take hp)
            have z2 : p.2 = [] := List.eq_nil_of_length_eq_zero (by simp [pl, z1])
            rw [z1] at HS
            rw [z2] at HC
            have hk10 : (k : Int) < 10 := by omega
            have HO := Lib.hid hown
            obtain ⟨va, vc, rfl, hvc⟩ := own_formR hown
            clear hp hown z1 z2 hv0 pl p1
            go_wp2_with (at_builtin; refine wpList_append_own_none rfl (.tmp 31) (.tmp 32) 45 rfl w.heap.size 27 i0 1 Try.underlying45 hi0 _ _ _ rfl HO.out rfl ?_)
            go_roundw
            case rel => exact ⟨k + 1, by omega, by go_num, hg, by rw [HS.out, HC.out, List.append_nil]; exact HO.out⟩
            case measure => simp [intOf]; omega
          · rw [← hg.cells.1 bb _ hbb] at c1
            have HP := Lib.hid hc
            have HS := Lib.hid (sumR_take hp)
            have HC := Lib.hid (catR_take hp)
            have hs1 := HSL.out (k + 1)
            have hs2 : sumR (X.take k) + p.1 ≤ 5864062014805 := by rw [← sumR_take hp]; omega
            have hk10 : (k : Int) < 10 := by omega
            have HPL := Lib.hid pl
            have HP1 := Lib.hid p1
            have HO := Lib.hid hown
            obtain ⟨va, vc, rfl, hvc⟩ := own_formR hown
            clear hp hs1 hc pl p1 hown hv0 hb
            generalize sumR (X.take k) = sk at *
            go_wp2_with (at_builtin; refine wpList_append_own _ rfl (.tmp 31) (.tmp 32) 45 rfl w.heap.size 27 i0 _ 1 24 Try.underlying45 hi0 hz0 hz1 hz2 rfl (by omega) _ _ _ rfl HO.out ad p.1 c p.2 rfl HPL.out HP.out HP1.out (by simp only [maxLen]; omega) (by omega) hg.le ?_; intro v1 w2 hown hg1 _)
            go_roundw
            case rel => exact ⟨k + 1, by omega, by go_num, hg.grown hg1 (fun k hk => (HO.out.lt k hk).1), by rw [HS.out, HC.out]; exact hown⟩
            case measure => simp [intOf]; omega
        · obtain rfl : k = X.length := by omega
          rw [List.take_length] at hown
          go_wp2_with fail
          go_ret
          exact ⟨_, rfl, hg, hown⟩
end Go.Proofs.Ytoencnbpjjkjnaa

/- Rows of integers as they are given, with their sizes; slices.Concat over two of them. -/
set_option linter.unusedVariables false
set_option linter.unusedSimpArgs false
namespace Go.Proofs.Ytoencnbpjjkjnaa
open Go.RowKit Rm Gx
theorem o_min3 {P : Program} {ev : Operand → Value} {d : Option Tmp} {ty : TypeId} {p : String} {af : Array Edge} {g : Option (Nat × Bool)} {w : World} {x y z : Operand} {ts : Array TypeId} {i j k r : Nat} (hx : ev x = .int .i64 (i : Int)) (hy : ev y = .int .i64 (j : Int)) (hz : ev z = .int .i64 (k : Int)) (hr : min (min i j) k = r) : (execOp ev (Oper.mk d (.call (Call.mk (.builtin .min) #[x, y, z] ts)) ty p af g)).run P w = .ok (.value (.int .i64 (r : Int))) w := by
  subst hr
  simp [execOp, resolve, invoke, builtin, Builtin.min_, Builtin.min2, hx, hy, hz, go_sem]
  repeat' split
  all_goals omega
theorem o_minN {P : Program} {ev : Operand → Value} {d : Option Tmp} {ty : TypeId} {p : String} {af : Array Edge} {g : Option (Nat × Bool)} {w : World} {x y : Operand} {ts : Array TypeId} {i j r : Nat} (hx : ev x = .int .i64 (i : Int)) (hy : ev y = .int .i64 (j : Int)) (hr : min i j = r) : (execOp ev (Oper.mk d (.call (Call.mk (.builtin .min) #[x, y] ts)) ty p af g)).run P w = .ok (.value (.int .i64 (r : Int))) w := Gx.o_min hx hy (by split <;> omega)
/-- the rows of a slice -/
def RdLc (w : World) (a : Option Addr) (L : List (List Int)) : Prop := L ≠ [] → ∃ b off, a = some ⟨b, off, none⟩ ∧ b < w.heap.size ∧ ∀ i x, L[i]? = some x → ∃ ua uc, w.cell? ⟨b, off + i * 1, none⟩ = some (.slice ua x.length uc) ∧ RdI1 w ua x
theorem RdLc.gr {w w' : World} {a : Option Addr} {L : List (List Int)} (h : RdLc w a L) (g : Gr w w') : RdLc w' a L := fun hn => by
  obtain ⟨b, off, e, hb, hx⟩ := h hn
  refine ⟨b, off, e, Nat.lt_of_lt_of_le hb g.le, fun i x hi => ?_⟩
  obtain ⟨ua, uc, h1, h2⟩ := hx i x hi
  exact ⟨ua, uc, (g.cells.1 b _ hb).trans h1, h2.gr g⟩
theorem RdLc.take {w : World} {a : Option Addr} {L : List (List Int)} {k : Nat} (h : RdLc w a L) : RdLc w a (L.take k) := fun hn => by
  obtain ⟨b, off, e, hb, hx⟩ := h (fun q => hn (by rw [q, List.take_nil]))
  refine ⟨b, off, e, hb, fun i x hi => hx i x ?_⟩
  have hl := (List.getElem?_eq_some_iff.1 hi).1
  rw [List.length_take] at hl
  rwa [List.getElem?_take_of_lt (by omega)] at hi
/-- the cells of a slice of rows -/
theorem rows_cells {w : World} {a : Option Addr} {L : List (List Int)} {c : Nat} (h : RdLc w a L) (hc : L.length ≤ c) (hn : a = none → c = 0) :
    ∃ C : List Value, C.length = L.length ∧ RdC 1 w (.slice a L.length c) L.length C ∧ ∀ (i : Nat) (x : List Int), L[i]? = some x → ∃ ua uc, C[i]? = some (Value.slice ua x.length uc) ∧ RdI1 w ua x := by
  by_cases h0 : L = []
  · subst h0
    refine ⟨[], rfl, ⟨rfl, (fun u hu => by cases hu), ?_⟩, (fun i x hi => by simp at hi)⟩
    cases a with
    | none => rw [hn rfl]; exact .inl ⟨rfl, rfl⟩
    | some ad => exact .inr ⟨ad, c, rfl, hc, fun q => absurd rfl q, fun j u hj => by simp at hj⟩
  · obtain ⟨b, off, rfl, hb, hx⟩ := h h0
    have hat : ∀ (i : Nat) (x : List Int), L[i]? = some x → ∃ ua uc, ((List.range L.length).map fun i => (w.cell? ⟨b, off + i * 1, none⟩).getD undef)[i]? = some (Value.slice ua x.length uc) ∧ RdI1 w ua x := fun i x hi => by
      obtain ⟨ua, uc, h1, h2⟩ := hx i x hi
      have hl := (List.getElem?_eq_some_iff.1 hi).1
      refine ⟨ua, uc, ?_, h2⟩
      rw [List.getElem?_map, List.getElem?_range hl, Option.map_some, h1]
      rfl
    refine ⟨(List.range L.length).map fun i => (w.cell? ⟨b, off + i * 1, none⟩).getD undef, by simp, ⟨by simp, fun u hu => ?_, .inr ⟨⟨b, off, none⟩, c, rfl, hc, fun _ => hb, fun j u hj => ?_⟩⟩, hat⟩
    · obtain ⟨i, hi⟩ := List.getElem?_of_mem hu
      have hl := (List.getElem?_eq_some_iff.1 hi).1
      simp only [List.length_map, List.length_range] at hl
      obtain ⟨ua, uc, h1, -⟩ := hat i _ (List.getElem?_eq_getElem hl)
      rw [h1] at hi
      cases hi
      rfl
    · have hl := (List.getElem?_eq_some_iff.1 hj).1
      simp only [List.length_map, List.length_range] at hl
      obtain ⟨ua, uc, h1, -⟩ := hat j _ (List.getElem?_eq_getElem hl)
      rw [h1] at hj
      cases hj
      obtain ⟨ua', uc', h3, -⟩ := hx j _ (List.getElem?_eq_getElem hl)
      rw [List.getElem?_map, List.getElem?_range hl, Option.map_some, h3] at h1
      rw [Nat.mul_one] at h3
      rw [add_n, h3]
      exact h1
theorem concatRows (P Q : List (List Int)) (a a' : Option Addr) (c c' b : Nat) (t : TypeId) (w : World) (hc : P.length ≤ c) (hc' : Q.length ≤ c') (hn : a = none → c = 0) (hn' : a' = none → c' = 0) (hs : P.length + Q.length ≤ 5864062014805)
    (hP : RdLc w a P) (hQ : RdLc w a' Q) (hb : Bk w b #[.slice a P.length c, .slice a' Q.length c'] t) :
    Calls Try.prog 39 #[.slice (some ⟨b, 0, none⟩) 2 2] w fun e w' => ∃ v, e = .returned v ∧ RdLL w' v (P ++ Q) ∧ Gr w w' := by
  obtain ⟨C, hC, hC1, hC2⟩ := rows_cells hP hc hn
  obtain ⟨D, hD, hD1, hD2⟩ := rows_cells hQ hc' hn'
  have hS : SrcR w b [(P.length, C), (Q.length, D)] := by
    refine ⟨hb.lt, fun i p hp => ?_⟩
    match i, hp with
    | 0, hp =>
      simp at hp; subst hp
      exact ⟨_, hb.cell 0 rfl, hC1⟩
    | 1, hp =>
      simp at hp; subst hp
      exact ⟨_, hb.cell 1 rfl, hD1⟩
    | i + 2, hp => simp at hp
  refine (concatR _ b 2 w hS (by simp [sumR]; omega) (by simp)).mono ?_
  rintro e w' ⟨v, rfl, g, h⟩
  have e1 : sumR [(P.length, C), (Q.length, D)] = (P ++ Q).length := by simp [sumR]
  have e2 : catR [(P.length, C), (Q.length, D)] = C ++ D := by simp [catR]
  rw [e1, e2] at h
  refine ⟨v, rfl, ?_, g⟩
  have hone : ∀ u ∈ C ++ D, u.oneCell' = true := fun u hu => by
    rcases List.mem_append.1 hu with hu | hu
    · exact hC1.2.1 u hu
    · exact hD1.2.1 u hu
  obtain ⟨-, -, h3⟩ := RdC.own h hone
  obtain ⟨-, ⟨rfl, h0⟩ | ⟨k, cap, cur, rfl, -, hk, hkc, -⟩⟩ := h
  · have h0' := List.eq_nil_of_length_eq_zero h0
    rw [h0']
    exact ⟨none, 0, rfl, Nat.le_refl _, fun q => absurd rfl q⟩
  · rcases h3 with ⟨e, -⟩ | ⟨ad, c2, e, -, hbb, hx⟩
    · cases e
    · injection e with e1 e2 e3
      injection e1 with e1
      subst e1
      refine ⟨_, _, rfl, hkc, fun hne => ⟨k, 0, rfl, (Array.getElem?_eq_some_iff.1 hk).1, fun i x hi => ?_⟩⟩
      have hcell : ∀ u, (C ++ D)[i]? = some u → w'.cell? ⟨k, 0 + i * 1, none⟩ = some u := fun u hu => by
        have := hx i u hu
        rwa [add_n, ← Nat.mul_one i] at this
      rcases Nat.lt_or_ge i P.length with q | q
      · rw [List.getElem?_append_left q] at hi
        obtain ⟨ua, uc, h1, h2⟩ := hC2 i x hi
        exact ⟨ua, uc, hcell _ (by rw [List.getElem?_append_left (by omega)]; exact h1), h2.gr g⟩
      · rw [List.getElem?_append_right q] at hi
        obtain ⟨ua, uc, h1, h2⟩ := hD2 _ x hi
        exact ⟨ua, uc, hcell _ (by rw [List.getElem?_append_right (by omega), hC]; exact h1), h2.gr g⟩
section
open Go.ChangeShapes Go.WideShapes Go.ChangeAt Go.RowKit Go.Deep Rm
variable {H : Type} {enc : TypeId × Value → H} {W : World} {base : Nat} {spare : Nat → Bool} {held : Bool}
theorem by_row : Try.prog.bytesOf 27 = 24 := by kernel_rfl
set_option maxRecDepth 100000 in
theorem rows_trodX {fuel : Nat} {cs : List Value} {x : DataW H × List MemPlace} (h : DataW.trod enc Try.prog W base spare held fuel 45 cs = some x) (hw : ∀ n ∈ x.1.weights Try.prog 45, n ≤ reachBytes) : ∃ (a : Option Addr) (c : Nat) (L : List (List Int)), cs = [.slice a L.length c] ∧ L.length ≤ c ∧ (a = none → c = 0) ∧ L.length * 24 ≤ reachBytes ∧ RdLc W a L := by
  rcases open_slice Try.underlying45 h with ⟨rfl, _⟩ | ⟨a, len, cap, m, n, D, Pl, rfl, hb, hl, hm, hmm, hx, hcell⟩
  · exact ⟨none, 0, [], rfl, Nat.le_refl _, fun _ => rfl, by simp, fun hn => absurd rfl hn⟩
  · have hlm : len ≤ m := by rw [hmm]; split <;> omega
    have hs := hw ((len + (m - len)) * 24) (by rw [hx]; simp [DataW.weights, Try.underlying45, by_row])
    obtain ⟨q, hq⟩ := choose_lt (α := List Int) (n := len) (p := fun i p => ∃ ua uc, W.cell? (a.add i) = some (.slice ua p.length uc) ∧ RdI1 W ua p) (fun i hi => by
        obtain ⟨cs', h1, h2⟩ := hcell i (by omega)
        rw [kints_cells] at h1
        obtain ⟨uv, p, rfl, hs⟩ := kints_trod h2
        obtain ⟨ua, uc, rfl, -, hr⟩ := RdI1.of hs
        obtain ⟨_, _, hc⟩ := World.cells?_some h1
        have e0 := hc 0 (by omega)
        rw [add_add] at e0
        exact ⟨p, ua, uc, by simpa using e0, hr⟩)
    refine ⟨some a, cap, (List.range len).map q, by simp, by simpa using hl, (fun z => by cases z), (by rw [List.length_map, List.length_range]; omega), fun hne => ?_⟩
    have h0 : 0 < len := by
      rcases Nat.eq_zero_or_pos len with h | h
      · subst h; simp at hne
      · exact h
    obtain ⟨b, off, spot⟩ := a
    obtain ⟨_, _, hc0, _⟩ := hq 0 h0
    have hspot : spot = none := by simpa [Addr.add] using World.cell?_spot hc0
    subst hspot
    have hlt : b < W.heap.size := by
      have := block_lt_of_cell hc0
      simpa [Addr.add] using this
    refine ⟨b, off, rfl, hlt, fun i p hp => ?_⟩
    have hil : i < len := by
      have := (List.getElem?_eq_some_iff.1 hp).1
      simpa using this
    have hp' : p = q i := by
      simp [List.getElem?_map, List.getElem?_range hil] at hp
      exact hp.symm
    subst hp'
    obtain ⟨ua, uc, q1, q2⟩ := hq i hil
    rw [add_none] at q1
    exact ⟨ua, uc, by rw [Nat.mul_one]; exact q1, q2⟩
set_option maxRecDepth 100000 in
theorem open_rowsX {r : Reach} {b0 : Nat} {v : Value} {d : DataW H} {p : List MemPlace}
    (hv : Value.okWide Try.prog W r b0 45 v) (h : DataW.Trod enc Try.prog W base spare held 45 v d p) (hw : ∀ n ∈ d.weights Try.prog 45, n ≤ reachBytes) : ∃ (a : Option Addr) (c : Nat) (L : List (List Int)), v = .slice a L.length c ∧ L.length ≤ c ∧ (a = none → c = 0) ∧ L.length * 24 ≤ reachBytes ∧ RdLc W a L := by
  obtain ⟨a0, len0, cap0, rfl⟩ := okWide_slice Try.underlying45 hv
  obtain ⟨fuel, hf⟩ := h
  obtain ⟨a, c, L, e, hl⟩ := rows_trodX hf hw
  simp [Value.cells] at e
  obtain ⟨e1, e2, e3⟩ := e
  subst e1 e2 e3
  exact ⟨_, _, L, rfl, hl⟩
end
end Go.Proofs.Ytoencnbpjjkjnaa

