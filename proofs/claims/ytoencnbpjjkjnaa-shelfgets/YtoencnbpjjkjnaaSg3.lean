/- Joined: DjA, KnY, FmA, KmA, KmB, KmC, ShC, ShD, GxH. -/
import Derived.Test.YtoencnbpjjkjnaaSg2
/- The document's sets of dots: Join, Meet. -/
set_option linter.unusedVariables false
set_option linter.unusedSimpArgs false
namespace Rm
/-- two rows of words, done up to a number -/
def upto (X Y : Nat → Nat) (f : Nat → Nat → Nat) (n : Nat) : Nat → Nat := fun j => if j < n then f (X j) (Y j) else X j
end Rm
namespace Gx
open Go Go.RowKit Rm
section
variable {P : Program} {ev : Operand → Value} {d : Option Tmp} {ty : TypeId} {p : String} {af : Array Edge} {g : Option (Nat × Bool)} {w : World}
theorem o_orU {t t' : TypeId} {x y : Operand} {i j : Nat} (hx : ev x = .int .u64 (i : Int)) (hy : ev y = .int .u64 (j : Int)) (hi : i < 2 ^ 64) (hj : j < 2 ^ 64) : (execOp ev (Oper.mk d (.binOp .or t x y t') ty p af g)).run P w = .ok (.value (.int .u64 ((i ||| j : Nat) : Int))) w := by
  have h := Go.Proofs.Ytoencnbpjjkjnaa.bits_or i j hi hj
  unfold execOp
  simp only [hx, hy, eqGuard, binOp, Sem.run_bind]
  rw [← h]
  rfl
end
end Gx
namespace Go.Proofs.Ytoencnbpjjkjnaa
open Go.RowKit Rm Gx
theorem upto_zero (X Y : Nat → Nat) (f : Nat → Nat → Nat) : upto X Y f 0 = X := by funext q; simp [upto]
theorem upto_lt (X Y : Nat → Nat) (f : Nat → Nat → Nat) (n j : Nat) (h : j < n) : upto X Y f n j = f (X j) (Y j) := if_pos h
theorem upto_get (X Y : Nat → Nat) (f : Nat → Nat → Nat) (n m : Nat) (h : m = n) (h8 : m < 80) : (wArr (upto X Y f n))[m]? = some (.int .u64 ((X m : Nat) : Int)) := by
  subst h
  rw [wArr_at _ _ h8]
  simp [upto]
theorem upto_put (X Y : Nat → Nat) (f : Nat → Nat → Nat) (n m : Nat) (h : m = n) : (wArr (upto X Y f n)).setIfInBounds m (.int .u64 ((f (X m) (Y m) : Nat) : Int)) = wArr (upto X Y f (n + 1)) := by
  subst h
  rw [wArr_set]
  congr 1
  funext q
  unfold upto
  rcases Nat.lt_trichotomy q m with h | h | h
  · rw [if_neg (by omega), if_pos h, if_pos (by omega)]
  · subst h; simp
  · rw [if_neg (by omega), if_neg (by omega), if_neg (by omega)]
set_option maxHeartbeats 8000000 in
set_option maxRecDepth 100000 in
theorem djoin_any (X Y : Nat → Nat) (hX : OkX X) (hY : OkX Y) (w : World) :
    Calls Try.prog 62 #[.agg (wArr X), .agg (wArr Y)] w fun e w' => e = .returned (.agg (wArr fun i => X i ||| Y i)) ∧ Gr w w' := by
  refine enter (N := 29) Try.func62 rfl rfl rfl (fun a0 ok0 h0 => ?_)
  have e0_0 : a0.eval (.tmp 0) = .agg (wArr X) := h0 0 _ rfl
  have e0_1 : a0.eval (.tmp 1) = .agg (wArr Y) := h0 1 _ rfl
  clear h0
  have G0 := Gr.refl w
  refine wp_seq_k (fun K1 hK1 => ?_)
  refine wp_region_lit ?_
  refine sal (cs := wArr X) ok0 rfl (wn _ rfl) rfl (o_box e0_0) (fun an2 w4 b3 W5 n2 => ?_)
  have l6 : w.heap.size ≤ b3 := by rw [W5.eq]; exact G0.size
  have G7 := G0.trans W5.gr
  refine sal (cs := wArr Y) n2.ok rfl (wn _ rfl) rfl (o_box (n2.ne rfl e0_1)) (fun an8 w10 b9 W11 n8 => ?_)
  have l12 : b3 < b9 := by rw [W11.eq]; exact W5.bk.lt
  have l13 : w.heap.size ≤ b9 := by rw [W11.eq]; exact G7.size
  have G14 := G7.trans W11.gr
  have B15 := W5.bk.gr W11.gr
  refine sal (cs := wArr (fun _ => 0)) n8.ok rfl (wn _ rfl) rfl (o_al (z := .agg (wArr (fun _ => 0))) dots_zero) (fun an16 w18 b17 W19 n16 => ?_)
  have l20 : b3 < b17 := by rw [W19.eq]; exact B15.lt
  have l21 : b9 < b17 := by rw [W19.eq]; exact W11.bk.lt
  have l22 : w.heap.size ≤ b17 := by rw [W19.eq]; exact G14.size
  have G23 := G14.trans W19.gr
  have B24 := B15.gr W19.gr
  have B25 := W11.bk.gr W19.gr
  refine wpList_nil ?_
  refine th_n (hK1 _ _ ?_)
  refine wp_seq_k (fun K26 hK26 => ?_)
  refine wp_seq_k (fun K27 hK27 => ?_)
  refine wp_region_lit ?_
  refine sv n16.ok rfl (wn _ rfl) rfl (o_mv ev_const) (fun an28 n28 => ?_)
  refine wpList_nil ?_
  refine th_n (hK27 _ _ ?_)
  refine wp_block ?_
  have e30 := n28.ne rfl (n16.ne rfl (n8.ne rfl n2.at_))
  refine lp (fun (nL : Nat) (aL : Act) (wL : World) => ∃ i : Nat, nL = 5 - i ∧ Ok 29 aL ∧ Gr w wL ∧ (aL.eval (.tmp 2) = .pointer (some ⟨b3, 0, none⟩)) ∧ (aL.eval (.tmp 3) = .pointer (some ⟨b9, 0, none⟩)) ∧ (aL.eval (.tmp 4) = .pointer (some ⟨b17, 0, none⟩)) ∧ (aL.eval (.tmp 7) = .int .i64 (i : Int)) ∧ (Bk wL b3 (wArr (upto X Y (· ||| ·) (i * 16))) 87) ∧ (Bk wL b9 (wArr Y) 87) ∧ (Bk wL b17 (wArr (fun _ => 0)) 87) ∧ (i ≤ 5)) _ ⟨0, rfl, n28.ok, G23, e30, (n28.ne rfl (n16.ne rfl n8.at_)), (n28.ne rfl n16.at_), n28.at_, (by rw [Nat.zero_mul, upto_zero]; exact B24), B25, W19.bk, by omega⟩ ?_
  rintro m31 aI29 w33 ⟨i, hmI29, okI29, GI29, s2I29, s3I29, s4I29, s7I29, kb3I29, kb9I29, kb17I29, hiI29⟩ KI29 hKI29
  refine wp_seq_k (fun K34 hK34 => ?_)
  refine wp_region_lit ?_
  refine sv okI29 rfl (wn _ rfl) rfl (o_ltI s7I29 ev_const) (fun an35 n35 => ?_)
  refine wpList_nil ?_
  refine th_n (hK34 _ _ ?_)
  refine wp_seq_k (fun K36 hK36 => ?_)
  by_cases c37 : (i : Int) < 5
  · refine wp_cond_true ((n35.at_).trans (congrArg Value.bool (decide_eq_true c37))) ?_
    refine wp_skip ?_
    refine th_n (hK36 _ _ ?_)
    refine wp_seq_k (fun K38 hK38 => ?_)
    refine wp_block ?_
    refine wp_seq_k (fun K39 hK39 => ?_)
    refine wp_region_lit ?_
    refine sv n35.ok rfl (wn _ rfl) rfl (o_mv (n35.ne rfl s7I29)) (fun an40 n40 => ?_)
    refine sv n40.ok rfl (wn _ rfl) rfl (o_as n40.at_) (fun an41 n41 => ?_)
    refine wpList_nil ?_
    refine th_n (hK39 _ _ ?_)
    refine wp_seq_k (fun K42 hK42 => ?_)
    refine wp_region_lit ?_
    refine sv n41.ok rfl (wn _ rfl) rfl (o_mv ev_const) (fun an43 n43 => ?_)
    refine wpList_nil ?_
    refine th_n (hK42 _ _ ?_)
    refine wp_block ?_
    have e45 := n43.ne rfl (n41.ne rfl (n40.ne rfl (n35.ne rfl s2I29)))
    have e46 := n43.ne rfl (n41.ne rfl (n40.ne rfl (n35.ne rfl s3I29)))
    have e47 := n43.ne rfl (n41.ne rfl (n40.ne rfl (n35.ne rfl s4I29)))
    have e48 := n43.ne rfl (n41.ne rfl (n40.ne rfl (n35.ne rfl s7I29)))
    refine lp (fun (nL : Nat) (aL : Act) (wL : World) => ∃ k : Nat, nL = 16 - k ∧ Ok 29 aL ∧ Gr w wL ∧ (aL.eval (.tmp 2) = .pointer (some ⟨b3, 0, none⟩)) ∧ (aL.eval (.tmp 3) = .pointer (some ⟨b9, 0, none⟩)) ∧ (aL.eval (.tmp 4) = .pointer (some ⟨b17, 0, none⟩)) ∧ (aL.eval (.tmp 5) = .int .i64 (i : Int)) ∧ (aL.eval (.tmp 7) = .int .i64 (i : Int)) ∧ (aL.eval (.tmp 10) = .int .i64 (k : Int)) ∧ (Bk wL b3 (wArr (upto X Y (· ||| ·) (i * 16 + k))) 87) ∧ (Bk wL b9 (wArr Y) 87) ∧ (Bk wL b17 (wArr (fun _ => 0)) 87) ∧ (k ≤ 16)) _ ⟨0, rfl, n43.ok, GI29, e45, e46, e47, (n43.ne rfl n41.at_), e48, n43.at_, kb3I29, kb9I29, kb17I29, by omega⟩ ?_
    rintro m49 aI44 w51 ⟨k, hmI44, okI44, GI44, s2I44, s3I44, s4I44, s5I44, s7I44, s10I44, kb3I44, kb9I44, kb17I44, hkI44⟩ KI44 hKI44
    refine wp_seq_k (fun K52 hK52 => ?_)
    refine wp_region_lit ?_
    refine sv okI44 rfl (wn _ rfl) rfl (o_ltI s10I44 ev_const) (fun an53 n53 => ?_)
    refine wpList_nil ?_
    refine th_n (hK52 _ _ ?_)
    refine wp_seq_k (fun K54 hK54 => ?_)
    by_cases c55 : (k : Int) < 16
    · refine wp_cond_true ((n53.at_).trans (congrArg Value.bool (decide_eq_true c55))) ?_
      refine wp_skip ?_
      refine th_n (hK54 _ _ ?_)
      refine wp_seq_k (fun K56 hK56 => ?_)
      refine wp_block ?_
      refine wp_seq_k (fun K57 hK57 => ?_)
      refine wp_region_lit ?_
      refine sv n53.ok rfl (wn _ rfl) rfl (o_mv (n53.ne rfl s10I44)) (fun an58 n58 => ?_)
      refine sv n58.ok rfl (wn _ rfl) rfl (o_as n58.at_) (fun an59 n59 => ?_)
      refine wpList_nil ?_
      refine th_n (hK57 _ _ ?_)
      refine reg_start (N := 29) (m := 13) (by kernel_rfl) (fun R600 => ?_)
      have e61 := n59.ne rfl (n58.ne rfl (n53.ne rfl s5I44))
      have R601 := R600.snoc (n' := 1) rfl (fun vJ _ => vJ = .int .i64 (i : Int)) rfl (fun _ _ _ _ h => h) (fun aS wS pS => by
          exact Does.val (wn _ rfl) (o_mv ((pS.old 5 rfl).trans e61)) (Gr.refl _) rfl rfl)
      have R602 := R601.snoc (n' := 2) rfl (fun vJ _ => vJ = .int .i64 (k : Int)) rfl (fun _ _ _ _ h => h) (fun aS wS pS => by
          exact Does.val (wn _ rfl) (o_mv ((pS.old 6 rfl).trans n59.at_)) (Gr.refl _) rfl rfl)
      have e62 := n59.ne rfl (n58.ne rfl (n53.ne rfl s2I44))
      have R603 := R602.snoc (n' := 3) rfl (fun vJ _ => vJ = .pointer (some ⟨b3, 0 + i * 16, none⟩)) rfl (fun _ _ _ _ h => h) (fun aS wS pS => by
          have eR60_0 : aS.eval (.tmp 13) = .int .i64 (i : Int) := pS.pre 0 rfl
          exact Does.val (wn _ rfl) (o_iaA (i := i) (s := 16) ((pS.old 2 rfl).trans e62) (eR60_0) Try.underlying87 (by kernel_rfl) (by omega)) (Gr.refl _) rfl rfl)
      have R604 := R603.snoc (n' := 4) rfl (fun vJ _ => vJ = .pointer (some ⟨b3, 0 + i * 16 + k * 1, none⟩)) rfl (fun _ _ _ _ h => h) (fun aS wS pS => by
          have eR60_1 : aS.eval (.tmp 14) = .int .i64 (k : Int) := pS.pre 1 rfl
          have eR60_2 : aS.eval (.tmp 15) = .pointer (some ⟨b3, 0 + i * 16, none⟩) := pS.pre 2 rfl
          exact Does.val (wn _ rfl) (o_iaA (i := k) (s := 1) (eR60_2) (eR60_1) Try.underlying85 (by kernel_rfl) (by omega)) (Gr.refl _) rfl rfl)
      have R605 := R604.snoc (n' := 5) rfl (fun vJ _ => vJ = .int .u64 ((X (0 + i * 16 + k * 1) : Nat) : Int)) rfl (fun _ _ _ _ h => h) (fun aS wS pS => by
          have eR60_3 : aS.eval (.tmp 16) = .pointer (some ⟨b3, 0 + i * 16 + k * 1, none⟩) := pS.pre 3 rfl
          exact Does.val (wn _ rfl) (o_ld (eR60_3) (Try.isAgg84 _) ((Bk.gr kb3I44 (gr_drew pS.gr)).cell _ (upto_get X Y (· ||| ·) _ _ (by omega) (by omega)))) (Gr.refl _) rfl rfl)
      have R606 := R605.snoc (n' := 6) rfl (fun vJ _ => vJ = .int .i64 (i : Int)) rfl (fun _ _ _ _ h => h) (fun aS wS pS => by
          exact Does.val (wn _ rfl) (o_mv ((pS.old 5 rfl).trans e61)) (Gr.refl _) rfl rfl)
      have R607 := R606.snoc (n' := 7) rfl (fun vJ _ => vJ = .int .i64 (k : Int)) rfl (fun _ _ _ _ h => h) (fun aS wS pS => by
          exact Does.val (wn _ rfl) (o_mv ((pS.old 6 rfl).trans n59.at_)) (Gr.refl _) rfl rfl)
      have e63 := n59.ne rfl (n58.ne rfl (n53.ne rfl s3I44))
      have R608 := R607.snoc (n' := 8) rfl (fun vJ _ => vJ = .pointer (some ⟨b9, 0 + i * 16, none⟩)) rfl (fun _ _ _ _ h => h) (fun aS wS pS => by
          have eR60_5 : aS.eval (.tmp 18) = .int .i64 (i : Int) := pS.pre 5 rfl
          exact Does.val (wn _ rfl) (o_iaA (i := i) (s := 16) ((pS.old 3 rfl).trans e63) (eR60_5) Try.underlying87 (by kernel_rfl) (by omega)) (Gr.refl _) rfl rfl)
      have R609 := R608.snoc (n' := 9) rfl (fun vJ _ => vJ = .pointer (some ⟨b9, 0 + i * 16 + k * 1, none⟩)) rfl (fun _ _ _ _ h => h) (fun aS wS pS => by
          have eR60_6 : aS.eval (.tmp 19) = .int .i64 (k : Int) := pS.pre 6 rfl
          have eR60_7 : aS.eval (.tmp 20) = .pointer (some ⟨b9, 0 + i * 16, none⟩) := pS.pre 7 rfl
          exact Does.val (wn _ rfl) (o_iaA (i := k) (s := 1) (eR60_7) (eR60_6) Try.underlying85 (by kernel_rfl) (by omega)) (Gr.refl _) rfl rfl)
      have R6010 := R609.snoc (n' := 10) rfl (fun vJ _ => vJ = .int .u64 ((Y (0 + i * 16 + k * 1) : Nat) : Int)) rfl (fun _ _ _ _ h => h) (fun aS wS pS => by
          have eR60_8 : aS.eval (.tmp 21) = .pointer (some ⟨b9, 0 + i * 16 + k * 1, none⟩) := pS.pre 8 rfl
          exact Does.val (wn _ rfl) (o_ld (eR60_8) (Try.isAgg84 _) ((Bk.gr kb9I44 (gr_drew pS.gr)).cell _ (wArr_at Y (0 + i * 16 + k * 1) (by omega)))) (Gr.refl _) rfl rfl)
      have R6011 := R6010.snoc (n' := 11) rfl (fun vJ _ => vJ = .int .u64 ((X (0 + i * 16 + k * 1) ||| Y (0 + i * 16 + k * 1) : Nat) : Int)) rfl (fun _ _ _ _ h => h) (fun aS wS pS => by
          have eR60_4 : aS.eval (.tmp 17) = .int .u64 ((X (0 + i * 16 + k * 1) : Nat) : Int) := pS.pre 4 rfl
          have eR60_9 : aS.eval (.tmp 22) = .int .u64 ((Y (0 + i * 16 + k * 1) : Nat) : Int) := pS.pre 9 rfl
          exact Does.val (wn _ rfl) (o_orU (eR60_4) (eR60_9) (hX _) (hY _)) (Gr.refl _) rfl rfl)
      have R6012 := R6011.snoc (n' := 12) rfl (fun vJ _ => vJ = .pointer (some ⟨b3, 0 + i * 16, none⟩)) rfl (fun _ _ _ _ h => h) (fun aS wS pS => by
          have eR60_0 : aS.eval (.tmp 13) = .int .i64 (i : Int) := pS.pre 0 rfl
          exact Does.val (wn _ rfl) (o_iaA (i := i) (s := 16) ((pS.old 2 rfl).trans e62) (eR60_0) Try.underlying87 (by kernel_rfl) (by omega)) (Gr.refl _) rfl rfl)
      have R6013 := R6012.snoc (n' := 13) rfl (fun vJ _ => vJ = .pointer (some ⟨b3, 0 + i * 16 + k * 1, none⟩)) rfl (fun _ _ _ _ h => h) (fun aS wS pS => by
          have eR60_1 : aS.eval (.tmp 14) = .int .i64 (k : Int) := pS.pre 1 rfl
          have eR60_11 : aS.eval (.tmp 24) = .pointer (some ⟨b3, 0 + i * 16, none⟩) := pS.pre 11 rfl
          exact Does.val (wn _ rfl) (o_iaA (i := k) (s := 1) (eR60_11) (eR60_1) Try.underlying85 (by kernel_rfl) (by omega)) (Gr.refl _) rfl rfl)
      refine R6013.run (k := 1) (L := #[true, true, true, true, true, true, true, true, true, true, true, true, true, false]) (by kernel_rfl) (by kernel_rfl) (by kernel_rfl) n59.ok (by kernel_rfl) (by kernel_rfl) (fun ap65 w66 p65 => ?_)
      have g67 := gr_drew p65.gr
      have G68 := GI44.trans g67
      have B69 := kb3I44.gr g67
      have B70 := kb9I44.gr g67
      have B71 := kb17I44.gr g67
      have ep65_12 : ap65.eval (.tmp 25) = .pointer (some ⟨b3, 0 + i * 16 + k * 1, none⟩) := p65.js 12 rfl
      have ep65_10 : ap65.eval (.tmp 23) = .int .u64 ((X (0 + i * 16 + k * 1) ||| Y (0 + i * 16 + k * 1) : Nat) : Int) := p65.js 10 rfl
      refine t_stC (i := 13) (by kernel_rfl) rfl rfl (wn _ rfl) (o_st ep65_12 ep65_10 B69 (upto_get X Y (· ||| ·) _ _ (by omega) (by omega)) (by kernel_rfl) rfl) B69 (fun w72 u73 u73b => ?_)
      have G74 : Gr w w72 := Below.upd G68 l6 u73
      have B75 := B70.upd u73 (Nat.ne_of_gt l12)
      have B76 := B71.upd u73 (Nat.ne_of_gt l20)
      have B77 : Bk w72 b3 (wArr (upto X Y (· ||| ·) (i * 16 + k + 1))) 87 := (by rw [← upto_put X Y (· ||| ·) (i * 16 + k) (0 + i * 16 + k * 1) (by omega)]; exact u73b)
      refine wpAny_done (by kernel_rfl) ?_ _
      refine ib_n ?_
      refine th_n (hK56 _ _ ?_)
      refine wp_region_lit ?_
      have e78 := (p65.old 10 rfl).trans (n59.ne rfl (n58.ne rfl (n53.ne rfl s10I44)))
      refine sv p65.ok rfl (wn _ rfl) rfl (o_add (r := ((k + 1 : Nat) : Int)) e78 ev_const (by omega) (by omega)) (fun an79 n79 => ?_)
      refine sv n79.ok rfl (wn _ rfl) rfl (o_mv n79.at_) (fun an80 n80 => ?_)
      refine wpList_nil ?_
      have e81 := n80.ne rfl (n79.ne rfl ((p65.old 2 rfl).trans e62))
      have e82 := n80.ne rfl (n79.ne rfl ((p65.old 3 rfl).trans e63))
      have e83 := n80.ne rfl (n79.ne rfl ((p65.old 4 rfl).trans (n59.ne rfl (n58.ne rfl (n53.ne rfl s4I44)))))
      have e84 := n80.ne rfl (n79.ne rfl ((p65.old 5 rfl).trans e61))
      have e85 := n80.ne rfl (n79.ne rfl ((p65.old 7 rfl).trans (n59.ne rfl (n58.ne rfl (n53.ne rfl s7I44)))))
      exact th_n (hKI44 _ _ _ (by omega) ⟨k + 1, rfl, n80.ok, G74, e81, e82, e83, e84, e85, n80.at_, B77, B75, B76, by omega⟩)
    · refine wp_cond_false ((n53.at_).trans (congrArg Value.bool (decide_eq_false c55))) ?_
      refine wp_exit ?_
      refine th_x ?_
      refine th_x ?_
      refine ib_x ?_
      refine ib_n ?_
      refine th_n (hK38 _ _ ?_)
      refine wp_region_lit ?_
      refine sv n53.ok rfl (wn _ rfl) rfl (o_add (r := ((i + 1 : Nat) : Int)) (n53.ne rfl s7I44) ev_const (by omega) (by omega)) (fun an86 n86 => ?_)
      refine sv n86.ok rfl (wn _ rfl) rfl (o_mv n86.at_) (fun an87 n87 => ?_)
      refine wpList_nil ?_
      have e88 := n87.ne rfl (n86.ne rfl (n53.ne rfl s2I44))
      have e89 := n87.ne rfl (n86.ne rfl (n53.ne rfl s3I44))
      have e90 := n87.ne rfl (n86.ne rfl (n53.ne rfl s4I44))
      exact th_n (hKI29 _ _ _ (by omega) ⟨i + 1, rfl, n87.ok, GI44, e88, e89, e90, n87.at_, (by rw [show (i + 1) * 16 = i * 16 + k by omega]; exact kb3I44), kb9I44, kb17I44, by omega⟩)
  · refine wp_cond_false ((n35.at_).trans (congrArg Value.bool (decide_eq_false c37))) ?_
    refine wp_exit ?_
    refine th_x ?_
    refine th_x ?_
    refine ib_x ?_
    refine th_n (hK26 _ _ ?_)
    refine wp_seq_k (fun K91 hK91 => ?_)
    refine wp_region_lit ?_
    refine sv n35.ok rfl (wn _ rfl) rfl (o_ldR (n35.ne rfl s2I29) kb3I29 Try.underlying87 rfl (dots_sz (upto X Y (· ||| ·) (i * 16)))) (fun an92 n92 => ?_)
    refine ssR rfl (wn _ rfl) (o_stR (n92.ne rfl (n35.ne rfl s4I29)) n92.at_ kb17I29 (dots_sz (upto X Y (· ||| ·) (i * 16))) (by rw [wArr_size, wArr_size]) (wArr_one (upto X Y (· ||| ·) (i * 16)))) kb17I29 (fun w93 u94 u94b => ?_)
    have G95 : Gr w w93 := Below.upd GI29 l22 u94
    have B96 := kb3I29.upd u94 (Nat.ne_of_lt l20)
    have B97 := kb9I29.upd u94 (Nat.ne_of_lt l21)
    refine wpList_nil ?_
    refine th_n (hK91 _ _ ?_)
    refine wp_ret ?_
    exact ret1 n92.ok rfl (⟨_, _, (n92.ne rfl (n35.ne rfl s4I29)), ld_row u94b Try.underlying87 rfl (dots_sz (upto X Y (· ||| ·) (i * 16)))⟩) ⟨by rw [wArr_ext fun j hj => upto_lt X Y (· ||| ·) _ j (by omega)], G95⟩
end Go.Proofs.Ytoencnbpjjkjnaa

/- slices.Equal at integers and at dots; the document's SameKnow. -/
set_option linter.unusedVariables false
set_option linter.unusedSimpArgs false
namespace Go.Proofs.Ytoencnbpjjkjnaa
open Go.RowKit Rm

set_option maxHeartbeats 1000000 in
set_option maxRecDepth 100000 in
theorem equalI (x y : Value) (l l' : List (Int)) (w : World) (h : R1 w x l) (h' : R1 w y l') (hl : l.length ≤ 100000) :
    Calls Try.prog 60 #[x, y] w fun e w' => e = .returned (.bool (decide (l = l'))) ∧ Gr w w' := by
  obtain ⟨a, c, rfl, hc, hx⟩ := h
  obtain ⟨a', c', rfl, hc', hx'⟩ := h'
  have HX := Lib.hid hx
  have HX' := Lib.hid hx'
  clear hx hx'
  by_cases hlen : l.length = l'.length
  · have hlI : (l.length : Int) ≤ 100000 := by omega
    rw [← hlen] at hc' ⊢
    have HLN := Lib.hid hlen
    clear hlen
    go_enter Try.func60, Try.ntmps60
    go_wp2
    go_loopg [13] l.length (fun gh ix wr => ∃ i : Nat, i ≤ l.length ∧ l.length - i ≤ gh ∧ ix = .int .i64 (i : Int) ∧ (∃ q, wr = w.drewN q) ∧ ∀ j, j < i → l[j]? = l'[j]?)
    case atStart => exact ⟨0, by omega, by omega, rfl, ⟨0, rfl⟩, fun j hj => by omega⟩
    case round =>
      obtain ⟨i, hi, hgh, rfl, ⟨q, hwr⟩, hall⟩ := hrel
      have HW := Lib.hid hwr
      have HA := Lib.hid hall
      have GW : Hid (Gr w wr) := by rw [hwr]; exact (Gr.refl w).drewN q
      clear hwr hall
      by_cases hil : i < l.length
      · obtain ⟨p, hp⟩ : ∃ p, l[i]? = some p := ⟨_, List.getElem?_eq_getElem hil⟩
        obtain ⟨p', hp'⟩ : ∃ p', l'[i]? = some p' := ⟨_, List.getElem?_eq_getElem (by have := HLN.out; omega)⟩
        obtain ⟨b, off, hab, hb, hcell⟩ := HX.out (by intro e; rw [e] at hil; simp at hil)
        obtain ⟨b', off', hab', hb', hcell'⟩ := HX'.out (by intro e; have hq := HLN.out; rw [e] at hq; simp at hq; rw [hq] at hil; simp at hil)
        subst hab
        subst hab'
        have q1 := (GW.out.cells.1 b (off + i) hb).trans (hcell i p hp)
        have q2 := (GW.out.cells.1 b' (off' + i) hb').trans (hcell' i p' hp')
        have hiI : (i : Int) < (l.length : Int) := by omega
        have HP := Lib.hid hp
        have HP' := Lib.hid hp'
        clear hcell hcell' hp hp'
        by_cases he : p = p'
        · subst he
          have HN : Hid (∀ j, j < i + 1 → l[j]? = l'[j]?) := fun j hj => by
            by_cases e : j = i
            · subst e; rw [HP.out, HP'.out]
            · exact HA.out j (by omega)
          go_wp2_with fail
          go_quiet (fail)
          go_wp2
          go_roundg (l.length - (i + 1))
          case measure => omega
          case rel => exact ⟨i + 1, by omega, Nat.le_refl _, by go_num, ⟨q + nq, by rw [HW.out]; exact drewN_add ..⟩, HN.out⟩
        · have HF : Hid (decide (l = l') = false) := by
            show _ = _
            rw [decide_eq_false_iff_not]
            rintro rfl
            have := HP.out.symm.trans HP'.out
            exact he (Option.some.inj this)
          go_wp2_with fail
          go_quiet (fail)
          go_wp2
          go_ret
          exact ⟨by rw [HF.out]; rfl, GW.out.drewN _⟩
      · obtain rfl : i = l.length := by omega
        have HT : Hid (decide (l = l') = true) := by
          show _ = _
          rw [decide_eq_true_eq]
          apply List.ext_getElem?
          intro j
          by_cases hj : j < l.length
          · exact HA.out j hj
          · rw [List.getElem?_eq_none (by omega), List.getElem?_eq_none (by have := HLN.out; omega)]
        go_wp2
        go_ret
        exact ⟨by rw [HT.out]; rfl, GW.out⟩
  · have HF : Hid (decide (l = l') = false) := by
      show _ = _
      rw [decide_eq_false_iff_not]
      rintro rfl
      exact hlen rfl
    have hI : ¬ (l.length : Int) = (l'.length : Int) := by omega
    go_enter Try.func60, Try.ntmps60
    go_wp2
    go_ret
    exact ⟨by rw [HF.out]; rfl, Gr.refl _⟩

set_option maxHeartbeats 1000000 in
set_option maxRecDepth 100000 in
theorem equalD (x y : Value) (l l' : List (Int × Int)) (w : World) (h : Rd2 w x l) (h' : Rd2 w y l') (hl : l.length ≤ 100000) :
    Calls Try.prog 61 #[x, y] w fun e w' => e = .returned (.bool (decide (l = l'))) ∧ Gr w w' := by
  obtain ⟨a, c, rfl, hc, hx⟩ := h
  obtain ⟨a', c', rfl, hc', hx'⟩ := h'
  have HX := Lib.hid hx
  have HX' := Lib.hid hx'
  clear hx hx'
  by_cases hlen : l.length = l'.length
  · have hlI : (l.length : Int) ≤ 100000 := by omega
    rw [← hlen] at hc' ⊢
    have HLN := Lib.hid hlen
    clear hlen
    go_enter Try.func61, Try.ntmps61
    go_wp2
    go_loopg [13] l.length (fun gh ix wr => ∃ i : Nat, i ≤ l.length ∧ l.length - i ≤ gh ∧ ix = .int .i64 (i : Int) ∧ (∃ q, wr = w.drewN q) ∧ ∀ j, j < i → l[j]? = l'[j]?)
    case atStart => exact ⟨0, by omega, by omega, rfl, ⟨0, rfl⟩, fun j hj => by omega⟩
    case round =>
      obtain ⟨i, hi, hgh, rfl, ⟨q, hwr⟩, hall⟩ := hrel
      have HW := Lib.hid hwr
      have HA := Lib.hid hall
      have GW : Hid (Gr w wr) := by rw [hwr]; exact (Gr.refl w).drewN q
      clear hwr hall
      by_cases hil : i < l.length
      · obtain ⟨p, hp⟩ : ∃ p, l[i]? = some p := ⟨_, List.getElem?_eq_getElem hil⟩
        obtain ⟨p', hp'⟩ : ∃ p', l'[i]? = some p' := ⟨_, List.getElem?_eq_getElem (by have := HLN.out; omega)⟩
        obtain ⟨b, off, hab, hb, hcell⟩ := HX.out (by intro e; rw [e] at hil; simp at hil)
        obtain ⟨b', off', hab', hb', hcell'⟩ := HX'.out (by intro e; have hq := HLN.out; rw [e] at hq; simp at hq; rw [hq] at hil; simp at hil)
        subst hab
        subst hab'
        obtain ⟨u, v⟩ := p
        obtain ⟨u', v'⟩ := p'
        have q1 := (GW.out.cells.1 b (off + i * 2) hb).trans (hcell i _ hp).1
        have q2 := (GW.out.cells.1 b (off + i * 2 + 1) hb).trans (hcell i _ hp).2
        have q3 := (GW.out.cells.1 b' (off' + i * 2) hb').trans (hcell' i _ hp').1
        have q4 := (GW.out.cells.1 b' (off' + i * 2 + 1) hb').trans (hcell' i _ hp').2
        simp only at q1 q2 q3 q4
        have hiI : (i : Int) < (l.length : Int) := by omega
        have HP := Lib.hid hp
        have HP' := Lib.hid hp'
        clear hcell hcell' hp hp'
        by_cases he : (u, v) = (u', v')
        · obtain ⟨rfl, rfl⟩ := Prod.mk.inj he
          have HN : Hid (∀ j, j < i + 1 → l[j]? = l'[j]?) := fun j hj => by
            by_cases e : j = i
            · subst e; rw [HP.out, HP'.out]
            · exact HA.out j (by omega)
          go_wp2_with fail
          go_quiet (fail)
          go_wp2
          go_roundg (l.length - (i + 1))
          case measure => omega
          case rel => exact ⟨i + 1, by omega, Nat.le_refl _, by go_num, ⟨q + nq, by rw [HW.out]; exact drewN_add ..⟩, HN.out⟩
        · have HF : Hid (decide (l = l') = false) := by
            show _ = _
            rw [decide_eq_false_iff_not]
            rintro rfl
            have := HP.out.symm.trans HP'.out
            exact he (Option.some.inj this)
          by_cases hu : u = u'
          · subst hu
            have hv : ¬ v = v' := fun e => he (by rw [e])
            clear he
            go_wp2_with fail
            go_quiet (fail)
            go_wp2
            go_ret
            exact ⟨by rw [HF.out]; rfl, GW.out.drewN _⟩
          · clear he
            go_wp2_with fail
            go_quiet (fail)
            go_wp2
            go_ret
            exact ⟨by rw [HF.out]; rfl, GW.out.drewN _⟩
      · obtain rfl : i = l.length := by omega
        have HT : Hid (decide (l = l') = true) := by
          show _ = _
          rw [decide_eq_true_eq]
          apply List.ext_getElem?
          intro j
          by_cases hj : j < l.length
          · exact HA.out j hj
          · rw [List.getElem?_eq_none (by omega), List.getElem?_eq_none (by have := HLN.out; omega)]
        go_wp2
        go_ret
        exact ⟨by rw [HT.out]; rfl, GW.out⟩
  · have HF : Hid (decide (l = l') = false) := by
      show _ = _
      rw [decide_eq_false_iff_not]
      rintro rfl
      exact hlen rfl
    have hI : ¬ (l.length : Int) = (l'.length : Int) := by omega
    go_enter Try.func61, Try.ntmps61
    go_wp2
    go_ret
    exact ⟨by rw [HF.out]; rfl, Gr.refl _⟩

/-- the first is compared first -/
theorem sameK_any (k k' : Value) (V V' : List Int) (M M' : List (Int × Int)) (w : World) (hk : KnR w k V M) (hk' : KnR w k' V' M') (hl : V.length ≤ 100000) (hl' : M.length ≤ 100000) :
    Calls Try.prog 18 #[k, k'] w fun e w' => e = .returned (.bool (decide (V = V') && decide (M = M'))) ∧ Gr w w' := by
  obtain ⟨vv, mv, rfl, r1, r2, r3⟩ := hk
  obtain ⟨vv', mv', rfl, r1', r2', r3'⟩ := hk'
  have H1 : Hid (∀ W, Gr w W → Calls Try.prog 60 #[vv, vv'] W fun e w' => e = .returned (.bool (decide (V = V'))) ∧ Gr W w') := fun W g => equalI vv vv' V V' W (r1.gr g) (r1'.gr g) hl
  have H2 : Hid (∀ W, Gr w W → Calls Try.prog 61 #[mv, mv'] W fun e w' => e = .returned (.bool (decide (M = M'))) ∧ Gr W w') := fun W g => equalD mv mv' M M' W (r2.gr g) (r2'.gr g) hl'
  clear r1 r2 r3 r1' r2' r3'
  have G2 := Lib.hid (((Gr.refl w).alloc (.cells #[vv, mv] 30)).alloc (.cells #[vv', mv'] 30))
  have B0 : Hid (((w.alloc (.cells #[vv, mv] 30)).alloc (.cells #[vv', mv'] 30)).heap[w.heap.size]? = some (.cells #[vv, mv] 30 (0, 0))) := (al_old _ _ _ (by simp)).trans (al_new _ _ _ rfl)
  have B1 : Hid (((w.alloc (.cells #[vv, mv] 30)).alloc (.cells #[vv', mv'] 30)).heap[w.heap.size + 1]? = some (.cells #[vv', mv'] 30 (0, 0))) := al_new _ _ _ (by simp)
  generalize decide (V = V') = p at *
  generalize decide (M = M') = q at *
  cases p
  · go_enter Try.func18, Try.ntmps18
    go_wp2_with (go_at_call 60; refine (H1.out _ G2.out).mono ?_; rintro e w4 ⟨rfl, g4⟩)
    go_ret
    exact ⟨rfl, G2.out.trans g4⟩
  · go_enter Try.func18, Try.ntmps18
    go_wp2_with (first
      | (go_at_call 60; refine (H1.out _ G2.out).mono ?_; rintro e w4 ⟨rfl, g4⟩; have b0 := (Below.block g4 _ (Array.getElem?_eq_some_iff.1 B0.out).1).trans B0.out; have b1 := (Below.block g4 _ (Array.getElem?_eq_some_iff.1 B1.out).1).trans B1.out; have c0 := kc1 b0; have c1 := kc1 b1; have G4 := Lib.hid (G2.out.trans g4); clear g4 b0 b1 B0 B1)
      | (go_at_call 61; refine (H2.out _ G4.out).mono ?_; rintro e w5 ⟨rfl, g5⟩))
    go_ret
    exact ⟨by simp, G4.out.trans g5⟩
end Go.Proofs.Ytoencnbpjjkjnaa

/- The document's Form: a set of dots in its form. -/
set_option linter.unusedVariables false
set_option linter.unusedSimpArgs false
namespace Rm
open Go Go.RowKit
theorem run_is {D : DS} {s n : Nat} (h1 : ∀ c, 1 ≤ c → c ≤ n → D s c = true) (h2 : n = 1000 ∨ D s (n + 1) = false) (hn : n ≤ 1000) : run D s = n := by
  have hle := run_le D s
  rcases Nat.lt_trichotomy (run D s) n with q | q | q
  · have := runTo_gap D s 1000 (show run D s < 1000 by omega)
    rw [show runTo D s 1000 = run D s from rfl, h1 (run D s + 1) (by omega) (by omega)] at this
    cases this
  · exact q
  · rcases h2 with e | e
    · omega
    · have := runTo_all D s 1000 (n + 1) (by omega) (show n + 1 ≤ run D s by omega)
      rw [this] at e; cases e
def runsTo (D : DS) (i : Nat) : List Nat := (List.range i).map (run D)
theorem runsTo_succ (D : DS) (i : Nat) : runsTo D (i + 1) = runsTo D i ++ [run D i] := by simp [runsTo, List.range_succ]
theorem runsTo_len (D : DS) (i : Nat) : (runsTo D i).length = i := by simp [runsTo]
/-- the dots behind the vector, of the first i sites -/
def restTo (D : DS) (i : Nat) : List (Nat × Nat) := (List.range i).flatMap (restD D)
theorem restTo_succ (D : DS) (i : Nat) : restTo D (i + 1) = restTo D i ++ restD D i := by simp [restTo, List.range_succ]
/-- .. of one site, below a count -/
def restB (D : DS) (s c : Nat) : List (Nat × Nat) := ((List.range c).filter fun x => decide (run D s + 2 ≤ x) && D s x).map fun x => (s, x)
theorem restB_all (D : DS) (s : Nat) : restB D s 1001 = restD D s := rfl
theorem restB_start (D : DS) (s c : Nat) (h : c ≤ run D s + 2) : restB D s c = [] := by
  unfold restB
  rw [List.filter_eq_nil_iff.2]
  · rfl
  · intro x hx
    have := List.mem_range.1 hx
    simp; omega
theorem restB_yes {D : DS} {s c : Nat} (h : run D s + 2 ≤ c) (hd : D s c = true) : restB D s (c + 1) = restB D s c ++ [(s, c)] := by
  unfold restB
  rw [List.range_succ, List.filter_append]
  simp [h, hd]
theorem restB_no {D : DS} {s c : Nat} (hd : D s c = false) : restB D s (c + 1) = restB D s c := by
  unfold restB
  rw [List.range_succ, List.filter_append]
  simp [hd]
theorem restB_len (D : DS) (s c : Nat) : (restB D s c).length ≤ c := by
  unfold restB
  rw [List.length_map]
  exact Nat.le_trans (List.length_filter_le _ _) (by simp)
theorem restTo_len (D : DS) (i : Nat) : (restTo D i).length ≤ i * 1001 := by
  induction i with
  | zero => simp [restTo]
  | succ i ih =>
    rw [restTo_succ, List.length_append]
    have := restB_len D i 1001
    rw [restB_all] at this
    omega
set_option maxRecDepth 20000 in
theorem five_runs (D : DS) : five (runsTo D 5) = runsTo D 5 := by
  simp [five, runsTo, cv, List.range_succ]
theorem all_snoc {D : DS} {i n : Nat} (h : ∀ c, 1 ≤ c → c ≤ n → D i c = true) (k : D i (n + 1) = true) : ∀ c, 1 ≤ c → c ≤ n + 1 → D i c = true := by
  intro c h1 h2
  by_cases e : c = n + 1
  · subst e; exact k
  · exact h c h1 (by omega)
theorem rest_end (D : DS) (i c : Nat) {n : Nat} (h1 : n + 2 ≤ c) (h2 : c = 1001 ∨ 1001 < c ∧ c = n + 2) (hR : run D i = n) : restTo D i ++ restB D i c = restTo D (i + 1) := by
  have key : restB D i c = restD D i := by
    rcases h2 with e | ⟨e, e'⟩
    · rw [e, restB_all]
    · rw [← restB_all, restB_start D i c (by omega), restB_start D i 1001 (by omega)]
  rw [restTo_succ, key]
theorem rest_len (D : DS) (i c : Nat) (hi : i < 5) (hc : c ≤ 1001) : (restTo D i ++ restB D i c).length ≤ 6100 := by
  have := restTo_len D i
  have := restB_len D i c
  rw [List.length_append]; omega
theorem restB_app (D : DS) (i c : Nat) (h : run D i + 2 ≤ c) (hd : D i c = true) : (restTo D i ++ restB D i (c + 1)).length = (restTo D i ++ restB D i c).length + 1 ∧ restTo D i ++ restB D i (c + 1) = (restTo D i ++ restB D i c) ++ [(i, c)] := by
  rw [restB_yes h hd, ← List.append_assoc]
  exact ⟨by rw [List.length_append]; rfl, rfl⟩
theorem zero_back {D : DS} {q : Nat} (h : ∀ s, q ≤ s → s < 5 → cv (runsTo D 5) s = 0) (h0 : run D (q - 1) = 0) (hq : 0 < q) (hq5 : q ≤ 5) : ∀ s, q - 1 ≤ s → s < 5 → cv (runsTo D 5) s = 0 := by
  intro s h1 h2
  by_cases e : s = q - 1
  · subst e
    simp [cv, runsTo, List.getD, h2, h0]
  · exact h s (by omega) h2
theorem form_vec (D : DS) (q : Nat) (hq : q ≤ 5) (hz : ∀ s, q ≤ s → s < 5 → cv (runsTo D 5) s = 0) (h : q = 0 ∨ (0 < q ∧ run D (q - 1) ≠ 0)) : formV D = (runsTo D 5).take q := by
  show trimL (runsTo D 5) = _
  have h5 : five (runsTo D 5) = runsTo D 5 := five_runs D
  rw [← h5, trim_take (runsTo D 5) q hq hz ?_]
  rcases h with e | ⟨e, e'⟩
  · exact .inl e
  · refine .inr ?_
    have : cv (runsTo D 5) (q - 1) = run D (q - 1) := by
      have : q - 1 < 5 := by omega
      simp [cv, runsTo, List.getD, this]
    rw [this]; exact e'
end Rm
namespace Go.Proofs.Ytoencnbpjjkjnaa
open Go.RowKit Rm Gx
theorem flatI_snoc (V : List Nat) (n : Nat) : flatI V ++ [.int .i64 (n : Int)] = flatI (V ++ [n]) := by simp [flatI]
theorem flatD_snoc (M : List (Nat × Nat)) (s c : Nat) : flat (pairs M) ++ [.int .i64 (s : Int), .int .i64 (c : Int)] = flat (pairs (M ++ [(s, c)])) := by simp [pairs, flat]
theorem bk_cells {w : World} {b : Nat} {cs : List Value} {t : TypeId} (h : Bk w b cs.toArray t) : ∀ j u, cs[j]? = some u → w.cell? ((⟨b, 0, none⟩ : Addr).add j) = some u := by
  intro j u hj
  rw [Gx.add_n, Nat.zero_add]
  exact h.cell j (by simpa using hj)
theorem runs_take_at (D : DS) {q j : Nat} (h : j < q) (hq : q ≤ 5) : (flatI ((runsTo D 5).take q))[0 + j * 1]? = some (.int .i64 ((run D j : Nat) : Int)) := by
  rw [Nat.zero_add, Nat.mul_one]
  unfold flatI
  rw [List.getElem?_map, List.getElem?_take_of_lt h]
  have : j < 5 := by omega
  simp [runsTo, this]
theorem own_cut_runs (D : DS) {w : World} {base : Nat} {e : TypeId} {q k c : Nat} {a : Option Addr} (hk : k ≤ q) (h : w.ownsRow base e 1 (.slice a q c) q (flatI ((runsTo D 5).take q))) : w.ownsRow base e 1 (.slice a k c) k (flatI ((runsTo D 5).take k)) := by
  have := ow_cut h hk
  rw [Nat.mul_one] at this
  have e2 : (flatI ((runsTo D 5).take q)).take k = flatI ((runsTo D 5).take k) := by
    unfold flatI
    rw [← List.map_take, List.take_take, Nat.min_eq_left hk]
  rwa [e2] at this
theorem own_take_len (D : DS) {w : World} {base : Nat} {e : TypeId} {q c : Nat} {a : Option Addr} (h : w.ownsRow base e 1 (.slice a q c) q (flatI ((runsTo D 5).take q))) : w.ownsRow base e 1 (.slice a q c) ((runsTo D 5).take q).length (flatI ((runsTo D 5).take q)) := by
  have h1 := h.1
  have : ((runsTo D 5).take q).length = q := by rw [flatI_len, Nat.mul_one] at h1; exact h1
  rw [this]; exact h
theorem leI_dec (n : Nat) : decide ((n : Int) ≤ 60) = decide (n ≤ 60) := by rw [Bool.eq_iff_iff]; simp only [decide_eq_true_eq]; omega
theorem own_cap {w : World} {base : Nat} {e : TypeId} {s n c : Nat} {a : Option Addr} {xs : List Value} (h : w.ownsRow base e s (.slice a n c) n xs) : n ≤ c := by
  obtain ⟨a', c', e, h⟩ := ow_form h
  injection e with _ _ e3
  omega
set_option maxHeartbeats 8000000 in
set_option maxRecDepth 100000 in
theorem rform_any (X : Nat → Nat) (hX : OkX X) (w : World) :
    Calls Try.prog 66 #[.agg (wArr X)] w fun e w' => ∃ k, e = .returned (.tuple #[k, .bool (decide ((formM (dsX X)).length ≤ 60))]) ∧ KnO w.heap.size w' k (formV (dsX X)) (formM (dsX X)) ∧ Gr w w' := by
  refine enter (N := 77) Try.func66 rfl rfl rfl (fun a0 ok0 h0 => ?_)
  have e0_0 : a0.eval (.tmp 0) = .agg (wArr X) := h0 0 _ rfl
  clear h0
  have G0 := Gr.refl w
  refine wp_seq_k (fun K1 hK1 => ?_)
  refine wp_region_lit ?_
  refine sal (cs := wArr X) ok0 rfl (wn _ rfl) rfl (o_box e0_0) (fun an2 w4 b3 W5 n2 => ?_)
  have l6 : w.heap.size ≤ b3 := by rw [W5.eq]; exact G0.size
  have G7 := G0.trans W5.gr
  refine sal (cs := #[.slice none 0 0, .slice none 0 0]) n2.ok rfl (wn _ rfl) rfl (o_al (z := .agg #[.slice none 0 0, .slice none 0 0]) (by kernel_rfl)) (fun an8 w10 b9 W11 n8 => ?_)
  have l12 : b3 < b9 := by rw [W11.eq]; exact W5.bk.lt
  have l13 : w.heap.size ≤ b9 := by rw [W11.eq]; exact G7.size
  have G14 := G7.trans W11.gr
  have B15 := W5.bk.gr W11.gr
  refine sv n8.ok rfl (wn _ rfl) rfl (o_as ev_const) (fun an16 n16 => ?_)
  refine wpList_nil ?_
  refine th_n (hK1 _ _ ?_)
  refine wp_seq_k (fun K17 hK17 => ?_)
  refine wp_region_lit ?_
  refine sal (cs := #[.slice none 0 0, .slice none 0 0]) n16.ok rfl (wn _ rfl) rfl (o_al (z := .agg #[.slice none 0 0, .slice none 0 0]) (by kernel_rfl)) (fun an18 w20 b19 W21 n18 => ?_)
  have l22 : b3 < b19 := by rw [W21.eq]; exact B15.lt
  have l23 : b9 < b19 := by rw [W21.eq]; exact W11.bk.lt
  have l24 : w.heap.size ≤ b19 := by rw [W21.eq]; exact G14.size
  have G25 := G14.trans W21.gr
  have B26 := B15.gr W21.gr
  have B27 := W11.bk.gr W21.gr
  refine wpList_nil ?_
  refine th_n (hK17 _ _ ?_)
  refine wp_seq_k (fun K28 hK28 => ?_)
  refine wp_seq_k (fun K29 hK29 => ?_)
  refine wp_region_lit ?_
  refine sv n18.ok rfl (wn _ rfl) rfl (o_mv ev_const) (fun an30 n30 => ?_)
  refine wpList_nil ?_
  refine th_n (hK29 _ _ ?_)
  refine wp_block ?_
  obtain ⟨h1, z31⟩ : ∃ n, n = w20.heap.size := ⟨_, rfl⟩
  have l32 : b3 < h1 := by rw [z31]; exact B26.lt
  have l33 : b9 < h1 := by rw [z31]; exact B27.lt
  have l34 : b19 < h1 := by rw [z31]; exact W21.bk.lt
  have l35 : w.heap.size ≤ h1 := by rw [z31]; exact G25.size
  have z36 : h1 ≤ w20.heap.size := Nat.le_of_eq z31
  have O37 := World.ownsRow_nil w20 h1 3 1
  have O38 := World.ownsRow_nil w20 h1 24 2
  have e40 := n30.ne rfl (n18.ne rfl (n16.ne rfl (n8.ne rfl n2.at_)))
  have e41 := n30.ne rfl (n18.ne rfl (n16.ne rfl n8.at_))
  refine lp (fun (nL : Nat) (aL : Act) (wL : World) => ∃ i : Nat, ∃ va : Option Addr, ∃ vc : Nat, ∃ ma : Option Addr, ∃ mc : Nat, nL = 5 - i ∧ Ok 77 aL ∧ Gr w wL ∧ (aL.eval (.tmp 1) = .pointer (some ⟨b3, 0, none⟩)) ∧ (aL.eval (.tmp 2) = .pointer (some ⟨b9, 0, none⟩)) ∧ (aL.eval (.tmp 3) = .bool false) ∧ (aL.eval (.tmp 4) = .pointer (some ⟨b19, 0, none⟩)) ∧ (aL.eval (.tmp 9) = .int .i64 (i : Int)) ∧ (Bk wL b3 (wArr X) 87) ∧ (Bk wL b9 #[.slice none 0 0, .slice none 0 0] 30) ∧ (Bk wL b19 #[.slice va i vc, .slice ma ((restTo (dsX X) (i)).length) mc] 30) ∧ (World.ownsRow wL h1 3 1 (.slice va i vc) (i) (flatI (runsTo (dsX X) i))) ∧ (World.ownsRow wL h1 24 2 (.slice ma ((restTo (dsX X) (i)).length) mc) ((restTo (dsX X) (i)).length) (flat (pairs (restTo (dsX X) i)))) ∧ (h1 ≤ wL.heap.size) ∧ (i ≤ 5)) _ ⟨0, none, 0, none, 0, rfl, n30.ok, G25, e40, e41, (n30.ne rfl (n18.ne rfl n16.at_)), (n30.ne rfl n18.at_), n30.at_, B26, B27, W21.bk, O37, O38, z36, by omega⟩ ?_
  rintro m42 aI39 w44 ⟨i, va, vc, ma, mc, hmI39, okI39, GI39, s1I39, s2I39, s3I39, s4I39, s9I39, kb3I39, kb9I39, kb19I39, oVI39, oMI39, zh1I39, hiI39⟩ KI39 hKI39
  refine wp_seq_k (fun K45 hK45 => ?_)
  refine wp_region_lit ?_
  refine sv okI39 rfl (wn _ rfl) rfl (o_ltI s9I39 ev_const) (fun an46 n46 => ?_)
  refine wpList_nil ?_
  refine th_n (hK45 _ _ ?_)
  refine wp_seq_k (fun K47 hK47 => ?_)
  by_cases c48 : (i : Int) < 5
  · refine wp_cond_true ((n46.at_).trans (congrArg Value.bool (decide_eq_true c48))) ?_
    refine wp_skip ?_
    refine th_n (hK47 _ _ ?_)
    refine wp_seq_k (fun K49 hK49 => ?_)
    refine wp_block ?_
    refine wp_seq_k (fun K50 hK50 => ?_)
    refine wp_region_lit ?_
    refine sv n46.ok rfl (wn _ rfl) rfl (o_mv (n46.ne rfl s9I39)) (fun an51 n51 => ?_)
    refine sv n51.ok rfl (wn _ rfl) rfl (o_as n51.at_) (fun an52 n52 => ?_)
    refine wpList_nil ?_
    refine th_n (hK50 _ _ ?_)
    refine wp_seq_k (fun K53 hK53 => ?_)
    refine wp_region_lit ?_
    refine sv n52.ok rfl (wn _ rfl) rfl (o_as ev_const) (fun an54 n54 => ?_)
    refine wpList_nil ?_
    refine th_n (hK53 _ _ ?_)
    refine wp_seq_k (fun K55 hK55 => ?_)
    refine wp_block ?_
    have e57 := n54.ne rfl (n52.ne rfl (n51.ne rfl (n46.ne rfl s1I39)))
    have e58 := n54.ne rfl (n52.ne rfl (n51.ne rfl (n46.ne rfl s2I39)))
    have e59 := n54.ne rfl (n52.ne rfl (n51.ne rfl (n46.ne rfl s3I39)))
    have e60 := n54.ne rfl (n52.ne rfl (n51.ne rfl (n46.ne rfl s4I39)))
    have e61 := n54.ne rfl (n52.ne rfl (n51.ne rfl (n46.ne rfl s9I39)))
    refine lp (fun (nL : Nat) (aL : Act) (wL : World) => ∃ n : Nat, nL = 1000 - n ∧ Ok 77 aL ∧ Gr w wL ∧ (aL.eval (.tmp 1) = .pointer (some ⟨b3, 0, none⟩)) ∧ (aL.eval (.tmp 2) = .pointer (some ⟨b9, 0, none⟩)) ∧ (aL.eval (.tmp 3) = .bool false) ∧ (aL.eval (.tmp 4) = .pointer (some ⟨b19, 0, none⟩)) ∧ (aL.eval (.tmp 5) = .int .i64 (i : Int)) ∧ (aL.eval (.tmp 6) = .int .i64 (n : Int)) ∧ (aL.eval (.tmp 9) = .int .i64 (i : Int)) ∧ (Bk wL b3 (wArr X) 87) ∧ (Bk wL b9 #[.slice none 0 0, .slice none 0 0] 30) ∧ (Bk wL b19 #[.slice va i vc, .slice ma ((restTo (dsX X) (i)).length) mc] 30) ∧ (World.ownsRow wL h1 3 1 (.slice va i vc) (i) (flatI (runsTo (dsX X) i))) ∧ (World.ownsRow wL h1 24 2 (.slice ma ((restTo (dsX X) (i)).length) mc) ((restTo (dsX X) (i)).length) (flat (pairs (restTo (dsX X) i)))) ∧ (h1 ≤ wL.heap.size) ∧ (n ≤ 1000) ∧ (∀ c, 1 ≤ c → c ≤ n → (dsX X) i c = true)) _ ⟨0, rfl, n54.ok, GI39, e57, e58, e59, e60, (n54.ne rfl n52.at_), n54.at_, e61, kb3I39, kb9I39, kb19I39, oVI39, oMI39, zh1I39, by omega, fun c h1 h2 => by omega⟩ ?_
    rintro m62 aI56 w64 ⟨n, hmI56, okI56, GI56, s1I56, s2I56, s3I56, s4I56, s5I56, s6I56, s9I56, kb3I56, kb9I56, kb19I56, oVI56, oMI56, zh1I56, hnI56, hallI56⟩ KI56 hKI56
    refine wp_seq_k (fun K65 hK65 => ?_)
    refine wp_seq_k (fun K66 hK66 => ?_)
    refine wp_region_lit ?_
    refine sv okI56 rfl (wn _ rfl) rfl (o_mv s6I56) (fun an67 n67 => ?_)
    refine sv n67.ok rfl (wn _ rfl) rfl (o_ltI n67.at_ ev_const) (fun an68 n68 => ?_)
    refine sv n68.ok rfl (wn _ rfl) rfl (o_mv n68.at_) (fun an69 n69 => ?_)
    by_cases c70 : (n : Int) < 1000
    · have e71 := (n69.at_).trans (congrArg Value.bool (decide_eq_true c70))
      have e72 := ((n69.ne rfl n68.at_)).trans (congrArg Value.bool (decide_eq_true c70))
      have e73 := n69.ne rfl (n68.ne rfl (n67.ne rfl s1I56))
      refine sv n69.ok rfl (wgT rfl (yl 2 true rfl e71) rfl) rfl (o_ldR e73 kb3I56 Try.underlying87 rfl (dots_sz X)) (fun an74 n74 => ?_)
      have e75 := n74.ne rfl (n69.ne rfl (n68.ne rfl (n67.ne rfl s5I56)))
      refine sv n74.ok rfl (wgT rfl (yl 2 true rfl (n74.ne rfl e71)) rfl) rfl (o_mv e75) (fun an76 n76 => ?_)
      have e77 := n76.ne rfl (n74.ne rfl (n69.ne rfl (n68.ne rfl (n67.ne rfl s6I56))))
      refine sv n76.ok rfl (wgT rfl (yl 2 true rfl (n76.ne rfl (n74.ne rfl e71))) rfl) rfl (o_mv e77) (fun an78 n78 => ?_)
      have e79 := n78.ne rfl (n76.ne rfl (n74.ne rfl e71))
      refine sv n78.ok rfl (wgT rfl (yl 2 true rfl e79) rfl) rfl (o_add (r := ((n + 1 : Nat) : Int)) n78.at_ ev_const (by omega) (by omega)) (fun an80 n80 => ?_)
      refine sv n80.ok rfl (wgT rfl (yl 2 true rfl (n80.ne rfl e79)) rfl) rfl (o_bd (cells := #[.int .i64 (i : Int), .int .i64 ((n + 1 : Nat) : Int)]) (vs := [(0, .int .i64 (i : Int)), (1, .int .i64 ((n + 1 : Nat) : Int))]) (by simp [(n80.ne rfl (n78.ne rfl n76.at_)), n80.at_, ev_const]) (by kernel_rfl)) (fun an81 n81 => ?_)
      have e82 := n81.ne rfl (n80.ne rfl (n78.ne rfl (n76.ne rfl n74.at_)))
      refine sc n81.ok rfl (wgT rfl (yl 2 true rfl (n81.ne rfl (n80.ne rfl e79))) rfl) rfl (o_f2 Try.func57 rfl rfl rfl e82 n81.at_) (rhas_any X (i) (n + 1) w64 hX (by omega) (by omega)) ?_
      rintro _ w84 ⟨rfl, g85⟩
      refine ⟨_, rfl, fun an83 n83 => ?_⟩
      have G86 := GI56.trans g85
      have B87 := kb3I56.gr g85
      have B88 := kb9I56.gr g85
      have B89 := kb19I56.gr g85
      have z90 := Nat.le_trans zh1I56 g85.size
      have O91 := ow_gr oVI56 g85
      have O92 := ow_gr oMI56 g85
      have e93 := n83.ne rfl (n81.ne rfl (n80.ne rfl e79))
      refine sv n83.ok rfl (wn _ rfl) rfl (o_pkT e93 n83.at_) (fun an94 n94 => ?_)
      refine wpList_nil ?_
      refine th_n (hK66 _ _ ?_)
      cases c95 : (dsX X (i) (n + 1))
      · refine wp_cond_false ((n94.at_).trans (congrArg Value.bool (c95))) ?_
        have hR : run (dsX X) i = n := run_is hallI56 (.inr c95) hnI56
        refine wp_exit ?_
        refine th_x ?_
        refine th_x ?_
        refine ib_x ?_
        refine th_n (hK55 _ _ ?_)
        refine wp_seq_k (fun K96 hK96 => ?_)
        refine wp_region_lit ?_
        have e97 := n94.ne rfl (n83.ne rfl (n81.ne rfl (n80.ne rfl (n78.ne rfl (n76.ne rfl (n74.ne rfl (n69.ne rfl (n68.ne rfl (n67.ne rfl s4I56)))))))))
        refine sv n94.ok rfl (wn _ rfl) rfl (o_fa (z := 1) e97 Try.underlying30 rfl (by kernel_rfl) rfl rfl) (fun an98 n98 => ?_)
        refine sv n98.ok rfl (wn _ rfl) rfl (o_ld n98.at_ (Try.isAgg27 _) (B89.cell _ rfl)) (fun an99 n99 => ?_)
        have e100 := n99.ne rfl (n98.ne rfl (n94.ne rfl (n83.ne rfl (n81.ne rfl (n80.ne rfl (n78.ne rfl e77))))))
        refine sv n99.ok rfl (wn _ rfl) rfl (o_mv e100) (fun an101 n101 => ?_)
        obtain ⟨i102, i102a, i102b, i102c⟩ := info3_of (show (Try.prog.info? 3).map (fun i => (i.zero, i.size)) = some (some (.int .i64 0), 1) by kernel_rfl)
        refine sals (cs := #[.int .i64 (n : Int)]) n101.ok rfl (wn _ rfl) rfl (o_bs (vs := [(0, .int .i64 (n : Int))]) (by simp [n101.at_, ev_const]) Try.underlying27 i102a i102b (by rw [i102c]; rfl) (by rw [i102c]; rfl) (by rw [i102c]; kernel_rfl)) (fun an103 w105 b104 W106 n103 => ?_)
        have l107 : b3 < b104 := by rw [W106.eq]; exact B87.lt
        have l108 : b9 < b104 := by rw [W106.eq]; exact B88.lt
        have l109 : b19 < b104 := by rw [W106.eq]; exact B89.lt
        have l110 : w.heap.size ≤ b104 := by rw [W106.eq]; exact G86.size
        have l111 : ∀ k, Value.ownBlock (.slice va i vc) = some k → k < b104 := fun k e => by rw [W106.eq]; exact ow_in O91 k e
        have l112 : ∀ k, Value.ownBlock (.slice ma ((restTo (dsX X) (i)).length) mc) = some k → k < b104 := fun k e => by rw [W106.eq]; exact ow_in O92 k e
        have G113 := G86.trans W106.gr
        have B114 := B87.gr W106.gr
        have B115 := B88.gr W106.gr
        have B116 := B89.gr W106.gr
        have z117 := Nat.le_trans z90 W106.gr.size
        have O118 := ow_gr O91 W106.gr
        have O119 := ow_gr O92 W106.gr
        obtain ⟨i120, i120a, i120b, i120c, i120d⟩ := info_of (show (Try.prog.info? 3).map (fun i => (i.zero, i.size, i.bytes)) = some (some (.int .i64 0), 1, 8) by kernel_rfl)
        refine s_app (base := h1) (n := i) (xs := flatI (runsTo (dsX X) i)) (m := 1) (news := [.int .i64 (n : Int)]) n103.ok (wn _ rfl) rfl Try.underlying27 i120a i120b i120c i120d rfl (by omega) (n103.ne rfl (n101.ne rfl n99.at_)) O118 n103.at_ rfl (fun j u hj => bk_cells W106.bk j u hj) (fun u hu => by simp at hu; subst hu; rfl) (by simp only [maxLen]; omega) (by omega) z117 (fun an121 w122 v123 O126 gg127 n121 => ?_)
        obtain ⟨a124, c125, rfl, c125l⟩ := ow_form O126
        have G128 := Gr.grown G113 gg127 (fun k e => Nat.le_trans l35 (ow_lt O118 k e))
        have B129 := B114.grown gg127 (ow_lt O118) l32
        have B130 := B115.grown gg127 (ow_lt O118) l33
        have B131 := B116.grown gg127 (ow_lt O118) l34
        have B132 := W106.bk.grown_ne gg127 l111
        have z133 := Nat.le_trans z117 gg127.size
        have O134 := ow_grown O119 O118 gg127 rfl
        have O135 : w122.ownsRow h1 3 1 (.slice a124 (i + 1) c125) (i + 1) (flatI (runsTo (dsX X) (i + 1))) := by rw [runsTo_succ, hR, ← flatI_snoc]; exact O126
        have e136 := n121.ne rfl (n103.ne rfl (n101.ne rfl (n99.ne rfl (n98.ne rfl e97))))
        refine sv n121.ok rfl (wn _ rfl) rfl (o_fa (z := 1) e136 Try.underlying30 rfl (by kernel_rfl) rfl rfl) (fun an137 n137 => ?_)
        refine ssC rfl (wn _ rfl) (o_st n137.at_ (n137.ne rfl n121.at_) B131 rfl (by kernel_rfl) rfl) B131 (fun w138 u139 u139b => ?_)
        have G140 : Gr w w138 := Below.upd G128 l24 u139
        have B141 := B129.upd u139 (Nat.ne_of_lt l22)
        have B142 := B130.upd u139 (Nat.ne_of_lt l23)
        have B143 := B132.upd u139 (Nat.ne_of_gt l109)
        have z144 : h1 ≤ w138.heap.size := by rw [u139.size]; exact z133
        have O145 := ow_upd O135 u139 l34
        have O146 := ow_upd O134 u139 l34
        refine wpList_nil ?_
        refine th_n (hK96 _ _ ?_)
        refine wp_seq_k (fun K147 hK147 => ?_)
        refine wp_region_lit ?_
        have e148 := n137.ne rfl (n121.ne rfl (n103.ne rfl (n101.ne rfl e100)))
        refine sv n137.ok rfl (wn _ rfl) rfl (o_mv e148) (fun an149 n149 => ?_)
        refine sv n149.ok rfl (wn _ rfl) rfl (o_add (r := ((n + 2 : Nat) : Int)) n149.at_ ev_const (by omega) (by omega)) (fun an150 n150 => ?_)
        refine sv n150.ok rfl (wn _ rfl) rfl (o_as n150.at_) (fun an151 n151 => ?_)
        refine wpList_nil ?_
        refine th_n (hK147 _ _ ?_)
        refine wp_block ?_
        have hst : restTo (dsX X) i ++ restB (dsX X) i (n + 2) = restTo (dsX X) i := by rw [restB_start (dsX X) i (n + 2) (by omega), List.append_nil]
        have e153 := n151.ne rfl (n150.ne rfl (n149.ne rfl (n137.ne rfl (n121.ne rfl (n103.ne rfl (n101.ne rfl (n99.ne rfl (n98.ne rfl (n94.ne rfl (n83.ne rfl (n81.ne rfl (n80.ne rfl (n78.ne rfl (n76.ne rfl (n74.ne rfl e73)))))))))))))))
        have e154 := n151.ne rfl (n150.ne rfl (n149.ne rfl (n137.ne rfl (n121.ne rfl (n103.ne rfl (n101.ne rfl (n99.ne rfl (n98.ne rfl (n94.ne rfl (n83.ne rfl (n81.ne rfl (n80.ne rfl (n78.ne rfl (n76.ne rfl (n74.ne rfl (n69.ne rfl (n68.ne rfl (n67.ne rfl s2I56))))))))))))))))))
        have e155 := n151.ne rfl (n150.ne rfl (n149.ne rfl (n137.ne rfl (n121.ne rfl (n103.ne rfl (n101.ne rfl (n99.ne rfl (n98.ne rfl (n94.ne rfl (n83.ne rfl (n81.ne rfl (n80.ne rfl (n78.ne rfl (n76.ne rfl (n74.ne rfl (n69.ne rfl (n68.ne rfl (n67.ne rfl s3I56))))))))))))))))))
        have e156 := n151.ne rfl (n150.ne rfl (n149.ne rfl (n137.ne rfl e136)))
        have e157 := n151.ne rfl (n150.ne rfl (n149.ne rfl (n137.ne rfl (n121.ne rfl (n103.ne rfl (n101.ne rfl (n99.ne rfl (n98.ne rfl (n94.ne rfl (n83.ne rfl (n81.ne rfl (n80.ne rfl (n78.ne rfl (n76.ne rfl e75))))))))))))))
        have e158 := n151.ne rfl (n150.ne rfl (n149.ne rfl (n137.ne rfl (n121.ne rfl (n103.ne rfl (n101.ne rfl (n99.ne rfl (n98.ne rfl (n94.ne rfl (n83.ne rfl (n81.ne rfl (n80.ne rfl (n78.ne rfl (n76.ne rfl (n74.ne rfl (n69.ne rfl (n68.ne rfl (n67.ne rfl s9I56))))))))))))))))))
        refine lp (fun (nL : Nat) (aL : Act) (wL : World) => ∃ c : Nat, ∃ ma : Option Addr, ∃ mc : Nat, nL = 1002 - c ∧ Ok 77 aL ∧ Gr w wL ∧ (aL.eval (.tmp 1) = .pointer (some ⟨b3, 0, none⟩)) ∧ (aL.eval (.tmp 2) = .pointer (some ⟨b9, 0, none⟩)) ∧ (aL.eval (.tmp 3) = .bool false) ∧ (aL.eval (.tmp 4) = .pointer (some ⟨b19, 0, none⟩)) ∧ (aL.eval (.tmp 5) = .int .i64 (i : Int)) ∧ (aL.eval (.tmp 7) = .int .i64 (c : Int)) ∧ (aL.eval (.tmp 9) = .int .i64 (i : Int)) ∧ (Bk wL b3 (wArr X) 87) ∧ (Bk wL b9 #[.slice none 0 0, .slice none 0 0] 30) ∧ (Bk wL b19 #[.slice a124 (i + 1) c125, .slice ma ((restTo (dsX X) i ++ restB (dsX X) i c).length) mc] 30) ∧ (World.ownsRow wL h1 3 1 (.slice a124 (i + 1) c125) (i + 1) (flatI (runsTo (dsX X) (i + 1)))) ∧ (World.ownsRow wL h1 24 2 (.slice ma ((restTo (dsX X) i ++ restB (dsX X) i c).length) mc) ((restTo (dsX X) i ++ restB (dsX X) i c).length) (flat (pairs (restTo (dsX X) i ++ restB (dsX X) i c)))) ∧ (h1 ≤ wL.heap.size) ∧ (n + 2 ≤ c) ∧ (c ≤ 1001 ∨ c = n + 2)) _ ⟨n + 2, ma, mc, rfl, n151.ok, G140, e153, e154, e155, e156, e157, n151.at_, e158, B141, B142, (by rw [hst]; exact u139b), O145, (by rw [hst]; exact O146), z144, by omega, by omega⟩ ?_
        rintro m159 aI152 w161 ⟨c, ma, mc, hmI152, okI152, GI152, s1I152, s2I152, s3I152, s4I152, s5I152, s7I152, s9I152, kb3I152, kb9I152, kb19I152, oVI152, oMI152, zh1I152, hc1I152, hc2I152⟩ KI152 hKI152
        refine wp_seq_k (fun K162 hK162 => ?_)
        refine wp_seq_k (fun K163 hK163 => ?_)
        refine wp_region_lit ?_
        refine sv okI152 rfl (wn _ rfl) rfl (o_mv s7I152) (fun an164 n164 => ?_)
        refine sv n164.ok rfl (wn _ rfl) rfl (o_leI n164.at_ ev_const) (fun an165 n165 => ?_)
        refine wpList_nil ?_
        refine th_n (hK163 _ _ ?_)
        by_cases c166 : (c : Int) ≤ 1000
        · refine wp_cond_true ((n165.at_).trans (congrArg Value.bool (decide_eq_true c166))) ?_
          refine wp_skip ?_
          refine th_n (hK162 _ _ ?_)
          refine wp_seq_k (fun K167 hK167 => ?_)
          refine wp_block ?_
          refine wp_seq_k (fun K168 hK168 => ?_)
          refine wp_region_lit ?_
          refine sv n165.ok rfl (wn _ rfl) rfl (o_mv (n165.ne rfl (n164.ne rfl s5I152))) (fun an169 n169 => ?_)
          have e170 := n169.ne rfl (n165.ne rfl (n164.ne rfl s7I152))
          refine sv n169.ok rfl (wn _ rfl) rfl (o_mv e170) (fun an171 n171 => ?_)
          refine sv n171.ok rfl (wn _ rfl) rfl (o_bd (cells := #[.int .i64 (i : Int), .int .i64 (c : Int)]) (vs := [(0, .int .i64 (i : Int)), (1, .int .i64 (c : Int))]) (by simp [(n171.ne rfl n169.at_), n171.at_, ev_const]) (by kernel_rfl)) (fun an172 n172 => ?_)
          refine sal (cs := #[.int .i64 0, .int .i64 0]) n172.ok rfl (wn _ rfl) rfl (o_al (z := .agg #[.int .i64 0, .int .i64 0]) (by kernel_rfl)) (fun an173 w175 b174 W176 n173 => ?_)
          have l177 : b3 < b174 := by rw [W176.eq]; exact kb3I152.lt
          have l178 : b9 < b174 := by rw [W176.eq]; exact kb9I152.lt
          have l179 : b19 < b174 := by rw [W176.eq]; exact kb19I152.lt
          have l180 : w.heap.size ≤ b174 := by rw [W176.eq]; exact GI152.size
          have l181 : ∀ k, Value.ownBlock (.slice a124 (i + 1) c125) = some k → k < b174 := fun k e => by rw [W176.eq]; exact ow_in oVI152 k e
          have l182 : ∀ k, Value.ownBlock (.slice ma ((restTo (dsX X) i ++ restB (dsX X) i c).length) mc) = some k → k < b174 := fun k e => by rw [W176.eq]; exact ow_in oMI152 k e
          have G183 := GI152.trans W176.gr
          have B184 := kb3I152.gr W176.gr
          have B185 := kb9I152.gr W176.gr
          have B186 := kb19I152.gr W176.gr
          have z187 := Nat.le_trans zh1I152 W176.gr.size
          have O188 := ow_gr oVI152 W176.gr
          have O189 := ow_gr oMI152 W176.gr
          refine ssR rfl (wn _ rfl) (o_stR n173.at_ (n173.ne rfl n172.at_) W176.bk (by kernel_rfl) rfl (by simp [Value.oneCell'])) W176.bk (fun w190 u191 u191b => ?_)
          have G192 : Gr w w190 := Below.upd G183 l180 u191
          have B193 := B184.upd u191 (Nat.ne_of_lt l177)
          have B194 := B185.upd u191 (Nat.ne_of_lt l178)
          have B195 := B186.upd u191 (Nat.ne_of_lt l179)
          have z196 : h1 ≤ w190.heap.size := by rw [u191.size]; exact z187
          have O197 := ow_upd_ne O188 u191 l181
          have O198 := ow_upd_ne O189 u191 l182
          refine wpList_nil ?_
          refine th_n (hK168 _ _ ?_)
          refine wp_seq_k (fun K199 hK199 => ?_)
          refine wp_region_lit ?_
          have e200 := n173.ne rfl (n172.ne rfl (n171.ne rfl (n169.ne rfl (n165.ne rfl (n164.ne rfl s1I152)))))
          refine sv n173.ok rfl (wn _ rfl) rfl (o_ldR e200 B193 Try.underlying87 rfl (dots_sz X)) (fun an201 n201 => ?_)
          refine sv n201.ok rfl (wn _ rfl) rfl (o_ldR (n201.ne rfl n173.at_) u191b Try.underlying24 rfl (by kernel_rfl)) (fun an202 n202 => ?_)
          refine sc n202.ok rfl (wn _ rfl) rfl (o_f2 Try.func57 rfl rfl rfl (n202.ne rfl n201.at_) n202.at_) (rhas_any X (i) (c) w190 hX (by omega) (by omega)) ?_
          rintro _ w204 ⟨rfl, g205⟩
          refine ⟨_, rfl, fun an203 n203 => ?_⟩
          have G206 := G192.trans g205
          have B207 := B193.gr g205
          have B208 := B194.gr g205
          have B209 := B195.gr g205
          have B210 := u191b.gr g205
          have z211 := Nat.le_trans z196 g205.size
          have O212 := ow_gr O197 g205
          have O213 := ow_gr O198 g205
          refine wpList_nil ?_
          refine th_n (hK199 _ _ ?_)
          cases c214 : (dsX X (i) (c))
          · refine wp_cond_false ((n203.at_).trans (congrArg Value.bool (c214))) ?_
            have h41 : (dsX X) i c = false := c214
            refine wp_skip ?_
            refine ib_n ?_
            refine th_n (hK167 _ _ ?_)
            refine wp_region_lit ?_
            have e215 := n203.ne rfl (n202.ne rfl (n201.ne rfl (n173.ne rfl (n172.ne rfl (n171.ne rfl e170)))))
            refine sv n203.ok rfl (wn _ rfl) rfl (o_mv e215) (fun an216 n216 => ?_)
            refine sv n216.ok rfl (wn _ rfl) rfl (o_add (r := ((c + 1 : Nat) : Int)) n216.at_ ev_const (by omega) (by omega)) (fun an217 n217 => ?_)
            refine sv n217.ok rfl (wn _ rfl) rfl (o_as n217.at_) (fun an218 n218 => ?_)
            refine wpList_nil ?_
            have e219 := n218.ne rfl (n217.ne rfl (n216.ne rfl (n203.ne rfl (n202.ne rfl (n201.ne rfl e200)))))
            have e220 := n218.ne rfl (n217.ne rfl (n216.ne rfl (n203.ne rfl (n202.ne rfl (n201.ne rfl (n173.ne rfl (n172.ne rfl (n171.ne rfl (n169.ne rfl (n165.ne rfl (n164.ne rfl s2I152)))))))))))
            have e221 := n218.ne rfl (n217.ne rfl (n216.ne rfl (n203.ne rfl (n202.ne rfl (n201.ne rfl (n173.ne rfl (n172.ne rfl (n171.ne rfl (n169.ne rfl (n165.ne rfl (n164.ne rfl s3I152)))))))))))
            have e222 := n218.ne rfl (n217.ne rfl (n216.ne rfl (n203.ne rfl (n202.ne rfl (n201.ne rfl (n173.ne rfl (n172.ne rfl (n171.ne rfl (n169.ne rfl (n165.ne rfl (n164.ne rfl s4I152)))))))))))
            have e223 := n218.ne rfl (n217.ne rfl (n216.ne rfl (n203.ne rfl (n202.ne rfl (n201.ne rfl (n173.ne rfl (n172.ne rfl (n171.ne rfl (n169.ne rfl (n165.ne rfl (n164.ne rfl s5I152)))))))))))
            have e224 := n218.ne rfl (n217.ne rfl (n216.ne rfl (n203.ne rfl (n202.ne rfl (n201.ne rfl (n173.ne rfl (n172.ne rfl (n171.ne rfl (n169.ne rfl (n165.ne rfl (n164.ne rfl s9I152)))))))))))
            exact th_n (hKI152 _ _ _ (by omega) ⟨c + 1, ma, mc, rfl, n218.ok, G206, e219, e220, e221, e222, e223, n218.at_, e224, B207, B208, (by rw [restB_no h41]; exact B209), O212, (by rw [restB_no h41]; exact O213), z211, by omega, by omega⟩)
          · refine wp_cond_true ((n203.at_).trans (congrArg Value.bool (c214))) ?_
            have h41 : (dsX X) i c = true := c214
            refine wp_region_lit ?_
            have e225 := n203.ne rfl (n202.ne rfl (n201.ne rfl (n173.ne rfl (n172.ne rfl (n171.ne rfl (n169.ne rfl (n165.ne rfl (n164.ne rfl s4I152))))))))
            refine sv n203.ok rfl (wn _ rfl) rfl (o_fa (z := 1) e225 Try.underlying30 rfl (by kernel_rfl) rfl rfl) (fun an226 n226 => ?_)
            refine sv n226.ok rfl (wn _ rfl) rfl (o_ld n226.at_ (Try.isAgg28 _) (B209.cell _ rfl)) (fun an227 n227 => ?_)
            have e228 := n227.ne rfl (n226.ne rfl (n203.ne rfl (n202.ne rfl (n201.ne rfl n173.at_))))
            refine sv n227.ok rfl (wn _ rfl) rfl (o_ldR e228 B210 Try.underlying24 rfl (by kernel_rfl)) (fun an229 n229 => ?_)
            obtain ⟨i230, i230a, i230b, i230c⟩ := info3_of (show (Try.prog.info? 24).map (fun i => (i.zero, i.size)) = some (some (.agg #[.int .i64 0, .int .i64 0]), 2) by kernel_rfl)
            refine sals (cs := #[.int .i64 (i : Int), .int .i64 (c : Int)]) n229.ok rfl (wn _ rfl) rfl (o_bs (vs := [(0, .agg #[.int .i64 (i : Int), .int .i64 (c : Int)])]) (by simp [n229.at_, ev_const]) Try.underlying28 i230a i230b (by rw [i230c]; rfl) (by rw [i230c]; rfl) (by rw [i230c]; kernel_rfl)) (fun an231 w233 b232 W234 n231 => ?_)
            have l235 : b3 < b232 := by rw [W234.eq]; exact B207.lt
            have l236 : b9 < b232 := by rw [W234.eq]; exact B208.lt
            have l237 : b19 < b232 := by rw [W234.eq]; exact B209.lt
            have l238 : b174 < b232 := by rw [W234.eq]; exact B210.lt
            have l239 : w.heap.size ≤ b232 := by rw [W234.eq]; exact G206.size
            have l240 : ∀ k, Value.ownBlock (.slice a124 (i + 1) c125) = some k → k < b232 := fun k e => by rw [W234.eq]; exact ow_in O212 k e
            have l241 : ∀ k, Value.ownBlock (.slice ma ((restTo (dsX X) i ++ restB (dsX X) i c).length) mc) = some k → k < b232 := fun k e => by rw [W234.eq]; exact ow_in O213 k e
            have G242 := G206.trans W234.gr
            have B243 := B207.gr W234.gr
            have B244 := B208.gr W234.gr
            have B245 := B209.gr W234.gr
            have B246 := B210.gr W234.gr
            have z247 := Nat.le_trans z211 W234.gr.size
            have O248 := ow_gr O212 W234.gr
            have O249 := ow_gr O213 W234.gr
            have hML : (restTo (dsX X) i ++ restB (dsX X) i c).length ≤ 6100 := rest_len (dsX X) i c (by omega) (by omega)
            have hap := restB_app (dsX X) i c (by omega) h41
            obtain ⟨i250, i250a, i250b, i250c, i250d⟩ := info_of (show (Try.prog.info? 24).map (fun i => (i.zero, i.size, i.bytes)) = some (some (.agg #[.int .i64 0, .int .i64 0]), 2, 16) by kernel_rfl)
            refine s_app (base := h1) (n := (restTo (dsX X) i ++ restB (dsX X) i c).length) (xs := flat (pairs (restTo (dsX X) i ++ restB (dsX X) i c))) (m := 1) (news := [.int .i64 (i : Int), .int .i64 (c : Int)]) n231.ok (wn _ rfl) rfl Try.underlying28 i250a i250b i250c i250d rfl (by omega) (n231.ne rfl (n229.ne rfl n227.at_)) O249 n231.at_ rfl (fun j u hj => bk_cells W234.bk j u hj) (fun u hu => by simp at hu; rcases hu with rfl | rfl <;> rfl) (by simp only [maxLen]; omega) (by omega) z247 (fun an251 w252 v253 O256 gg257 n251 => ?_)
            obtain ⟨a254, c255, rfl, c255l⟩ := ow_form O256
            have G258 := Gr.grown G242 gg257 (fun k e => Nat.le_trans l35 (ow_lt O249 k e))
            have B259 := B243.grown gg257 (ow_lt O249) l32
            have B260 := B244.grown gg257 (ow_lt O249) l33
            have B261 := B245.grown gg257 (ow_lt O249) l34
            have B262 := B246.grown_ne gg257 l182
            have B263 := W234.bk.grown_ne gg257 l241
            have z264 := Nat.le_trans z247 gg257.size
            have O265 := ow_grown O248 O249 gg257 rfl
            have O266 : w252.ownsRow h1 24 2 (.slice a254 ((restTo (dsX X) i ++ restB (dsX X) i c).length + 1) c255) ((restTo (dsX X) i ++ restB (dsX X) i c).length + 1) (flat (pairs (restTo (dsX X) i ++ restB (dsX X) i c)) ++ [.int .i64 (i : Int), .int .i64 (c : Int)]) := O256
            have e267 := n251.ne rfl (n231.ne rfl (n229.ne rfl (n227.ne rfl (n226.ne rfl e225))))
            refine sv n251.ok rfl (wn _ rfl) rfl (o_fa (z := 1) e267 Try.underlying30 rfl (by kernel_rfl) rfl rfl) (fun an268 n268 => ?_)
            refine ssC rfl (wn _ rfl) (o_st n268.at_ (n268.ne rfl n251.at_) B261 rfl (by kernel_rfl) rfl) B261 (fun w269 u270 u270b => ?_)
            have G271 : Gr w w269 := Below.upd G258 l24 u270
            have B272 := B259.upd u270 (Nat.ne_of_lt l22)
            have B273 := B260.upd u270 (Nat.ne_of_lt l23)
            have B274 := B262.upd u270 (Nat.ne_of_gt l179)
            have B275 := B263.upd u270 (Nat.ne_of_gt l237)
            have z276 : h1 ≤ w269.heap.size := by rw [u270.size]; exact z264
            have O277 := ow_upd O265 u270 l34
            have O278 := ow_upd O266 u270 l34
            refine wpList_nil ?_
            refine ib_n ?_
            refine th_n (hK167 _ _ ?_)
            refine wp_region_lit ?_
            have e279 := n268.ne rfl (n251.ne rfl (n231.ne rfl (n229.ne rfl (n227.ne rfl (n226.ne rfl (n203.ne rfl (n202.ne rfl (n201.ne rfl (n173.ne rfl (n172.ne rfl (n171.ne rfl e170)))))))))))
            refine sv n268.ok rfl (wn _ rfl) rfl (o_mv e279) (fun an280 n280 => ?_)
            refine sv n280.ok rfl (wn _ rfl) rfl (o_add (r := ((c + 1 : Nat) : Int)) n280.at_ ev_const (by omega) (by omega)) (fun an281 n281 => ?_)
            refine sv n281.ok rfl (wn _ rfl) rfl (o_as n281.at_) (fun an282 n282 => ?_)
            refine wpList_nil ?_
            have e283 := n282.ne rfl (n281.ne rfl (n280.ne rfl (n268.ne rfl (n251.ne rfl (n231.ne rfl (n229.ne rfl (n227.ne rfl (n226.ne rfl (n203.ne rfl (n202.ne rfl (n201.ne rfl e200)))))))))))
            have e284 := n282.ne rfl (n281.ne rfl (n280.ne rfl (n268.ne rfl (n251.ne rfl (n231.ne rfl (n229.ne rfl (n227.ne rfl (n226.ne rfl (n203.ne rfl (n202.ne rfl (n201.ne rfl (n173.ne rfl (n172.ne rfl (n171.ne rfl (n169.ne rfl (n165.ne rfl (n164.ne rfl s2I152)))))))))))))))))
            have e285 := n282.ne rfl (n281.ne rfl (n280.ne rfl (n268.ne rfl (n251.ne rfl (n231.ne rfl (n229.ne rfl (n227.ne rfl (n226.ne rfl (n203.ne rfl (n202.ne rfl (n201.ne rfl (n173.ne rfl (n172.ne rfl (n171.ne rfl (n169.ne rfl (n165.ne rfl (n164.ne rfl s3I152)))))))))))))))))
            have e286 := n282.ne rfl (n281.ne rfl (n280.ne rfl (n268.ne rfl e267)))
            have e287 := n282.ne rfl (n281.ne rfl (n280.ne rfl (n268.ne rfl (n251.ne rfl (n231.ne rfl (n229.ne rfl (n227.ne rfl (n226.ne rfl (n203.ne rfl (n202.ne rfl (n201.ne rfl (n173.ne rfl (n172.ne rfl (n171.ne rfl (n169.ne rfl (n165.ne rfl (n164.ne rfl s5I152)))))))))))))))))
            have e288 := n282.ne rfl (n281.ne rfl (n280.ne rfl (n268.ne rfl (n251.ne rfl (n231.ne rfl (n229.ne rfl (n227.ne rfl (n226.ne rfl (n203.ne rfl (n202.ne rfl (n201.ne rfl (n173.ne rfl (n172.ne rfl (n171.ne rfl (n169.ne rfl (n165.ne rfl (n164.ne rfl s9I152)))))))))))))))))
            exact th_n (hKI152 _ _ _ (by omega) ⟨c + 1, a254, c255, rfl, n282.ok, G271, e283, e284, e285, e286, e287, n282.at_, e288, B272, B273, (by rw [hap.1]; exact u270b), O277, (by rw [hap.1, hap.2, ← flatD_snoc]; exact O278), z276, by omega, by omega⟩)
        · refine wp_cond_false ((n165.at_).trans (congrArg Value.bool (decide_eq_false c166))) ?_
          refine wp_exit ?_
          refine th_x ?_
          refine th_x ?_
          refine ib_x ?_
          refine ib_n ?_
          refine th_n (hK49 _ _ ?_)
          refine wp_region_lit ?_
          refine sv n165.ok rfl (wn _ rfl) rfl (o_add (r := ((i + 1 : Nat) : Int)) (n165.ne rfl (n164.ne rfl s9I152)) ev_const (by omega) (by omega)) (fun an289 n289 => ?_)
          refine sv n289.ok rfl (wn _ rfl) rfl (o_mv n289.at_) (fun an290 n290 => ?_)
          refine wpList_nil ?_
          have hre : restTo (dsX X) i ++ restB (dsX X) i c = restTo (dsX X) (i + 1) := rest_end (dsX X) i c hc1I152 (by omega) hR
          have e291 := n290.ne rfl (n289.ne rfl (n165.ne rfl (n164.ne rfl s1I152)))
          have e292 := n290.ne rfl (n289.ne rfl (n165.ne rfl (n164.ne rfl s2I152)))
          have e293 := n290.ne rfl (n289.ne rfl (n165.ne rfl (n164.ne rfl s3I152)))
          have e294 := n290.ne rfl (n289.ne rfl (n165.ne rfl (n164.ne rfl s4I152)))
          exact th_n (hKI39 _ _ _ (by omega) ⟨i + 1, a124, c125, ma, mc, rfl, n290.ok, GI152, e291, e292, e293, e294, n290.at_, kb3I152, kb9I152, (by rw [← hre]; exact kb19I152), oVI152, (by rw [← hre]; exact oMI152), zh1I152, by omega⟩)
      · refine wp_cond_true ((n94.at_).trans (congrArg Value.bool (c95))) ?_
        have h21 : (dsX X) i (n + 1) = true := c95
        refine wp_skip ?_
        refine th_n (hK65 _ _ ?_)
        refine wp_block ?_
        refine wp_region_lit ?_
        have e295 := n94.ne rfl (n83.ne rfl (n81.ne rfl (n80.ne rfl (n78.ne rfl e77))))
        refine sv n94.ok rfl (wn _ rfl) rfl (o_mv e295) (fun an296 n296 => ?_)
        refine sv n296.ok rfl (wn _ rfl) rfl (o_add (r := ((n + 1 : Nat) : Int)) n296.at_ ev_const (by omega) (by omega)) (fun an297 n297 => ?_)
        refine sv n297.ok rfl (wn _ rfl) rfl (o_as n297.at_) (fun an298 n298 => ?_)
        refine wpList_nil ?_
        refine ib_n ?_
        have e299 := n298.ne rfl (n297.ne rfl (n296.ne rfl (n94.ne rfl (n83.ne rfl (n81.ne rfl (n80.ne rfl (n78.ne rfl (n76.ne rfl (n74.ne rfl e73)))))))))
        have e300 := n298.ne rfl (n297.ne rfl (n296.ne rfl (n94.ne rfl (n83.ne rfl (n81.ne rfl (n80.ne rfl (n78.ne rfl (n76.ne rfl (n74.ne rfl (n69.ne rfl (n68.ne rfl (n67.ne rfl s2I56))))))))))))
        have e301 := n298.ne rfl (n297.ne rfl (n296.ne rfl (n94.ne rfl (n83.ne rfl (n81.ne rfl (n80.ne rfl (n78.ne rfl (n76.ne rfl (n74.ne rfl (n69.ne rfl (n68.ne rfl (n67.ne rfl s3I56))))))))))))
        have e302 := n298.ne rfl (n297.ne rfl (n296.ne rfl (n94.ne rfl (n83.ne rfl (n81.ne rfl (n80.ne rfl (n78.ne rfl (n76.ne rfl (n74.ne rfl (n69.ne rfl (n68.ne rfl (n67.ne rfl s4I56))))))))))))
        have e303 := n298.ne rfl (n297.ne rfl (n296.ne rfl (n94.ne rfl (n83.ne rfl (n81.ne rfl (n80.ne rfl (n78.ne rfl (n76.ne rfl e75))))))))
        have e304 := n298.ne rfl (n297.ne rfl (n296.ne rfl (n94.ne rfl (n83.ne rfl (n81.ne rfl (n80.ne rfl (n78.ne rfl (n76.ne rfl (n74.ne rfl (n69.ne rfl (n68.ne rfl (n67.ne rfl s9I56))))))))))))
        exact th_n (hKI56 _ _ _ (by omega) ⟨n + 1, rfl, n298.ok, G86, e299, e300, e301, e302, e303, n298.at_, e304, B87, B88, B89, O91, O92, z90, by omega, all_snoc hallI56 h21⟩)
    · have e305 := (n69.at_).trans (congrArg Value.bool (decide_eq_false c70))
      have e306 := ((n69.ne rfl n68.at_)).trans (congrArg Value.bool (decide_eq_false c70))
      have hR : run (dsX X) i = n := run_is hallI56 (.inl (by omega)) hnI56
      refine sn n69.ok rfl (wgF rfl (yl 2 false rfl e305) rfl) rfl (fun an307 n307 => ?_)
      refine sn n307.ok rfl (wgF rfl (yl 2 false rfl (n307.ne rfl e305)) rfl) rfl (fun an308 n308 => ?_)
      refine sn n308.ok rfl (wgF rfl (yl 2 false rfl (n308.ne rfl (n307.ne rfl e305))) rfl) rfl (fun an309 n309 => ?_)
      have e310 := n309.ne rfl (n308.ne rfl (n307.ne rfl e305))
      refine sn n309.ok rfl (wgF rfl (yl 2 false rfl e310) rfl) rfl (fun an311 n311 => ?_)
      refine sn n311.ok rfl (wgF rfl (yl 2 false rfl (n311.ne rfl e310)) rfl) rfl (fun an312 n312 => ?_)
      refine sn n312.ok rfl (wgF rfl (yl 2 false rfl (n312.ne rfl (n311.ne rfl e310))) rfl) rfl (fun an313 n313 => ?_)
      have e314 := n313.ne rfl (n312.ne rfl (n311.ne rfl e310))
      refine sv n313.ok rfl (wn _ rfl) rfl (o_pkF e314 ev_const) (fun an315 n315 => ?_)
      refine wpList_nil ?_
      refine th_n (hK66 _ _ ?_)
      refine wp_cond_false (n315.at_) ?_
      refine wp_exit ?_
      refine th_x ?_
      refine th_x ?_
      refine ib_x ?_
      refine th_n (hK55 _ _ ?_)
      refine wp_seq_k (fun K316 hK316 => ?_)
      refine wp_region_lit ?_
      have e317 := n315.ne rfl (n313.ne rfl (n312.ne rfl (n311.ne rfl (n309.ne rfl (n308.ne rfl (n307.ne rfl (n69.ne rfl (n68.ne rfl (n67.ne rfl s4I56)))))))))
      refine sv n315.ok rfl (wn _ rfl) rfl (o_fa (z := 1) e317 Try.underlying30 rfl (by kernel_rfl) rfl rfl) (fun an318 n318 => ?_)
      refine sv n318.ok rfl (wn _ rfl) rfl (o_ld n318.at_ (Try.isAgg27 _) (kb19I56.cell _ rfl)) (fun an319 n319 => ?_)
      have e320 := n319.ne rfl (n318.ne rfl (n315.ne rfl (n313.ne rfl (n312.ne rfl (n311.ne rfl (n309.ne rfl (n308.ne rfl (n307.ne rfl (n69.ne rfl (n68.ne rfl (n67.ne rfl s6I56)))))))))))
      refine sv n319.ok rfl (wn _ rfl) rfl (o_mv e320) (fun an321 n321 => ?_)
      obtain ⟨i322, i322a, i322b, i322c⟩ := info3_of (show (Try.prog.info? 3).map (fun i => (i.zero, i.size)) = some (some (.int .i64 0), 1) by kernel_rfl)
      refine sals (cs := #[.int .i64 (n : Int)]) n321.ok rfl (wn _ rfl) rfl (o_bs (vs := [(0, .int .i64 (n : Int))]) (by simp [n321.at_, ev_const]) Try.underlying27 i322a i322b (by rw [i322c]; rfl) (by rw [i322c]; rfl) (by rw [i322c]; kernel_rfl)) (fun an323 w325 b324 W326 n323 => ?_)
      have l327 : b3 < b324 := by rw [W326.eq]; exact kb3I56.lt
      have l328 : b9 < b324 := by rw [W326.eq]; exact kb9I56.lt
      have l329 : b19 < b324 := by rw [W326.eq]; exact kb19I56.lt
      have l330 : w.heap.size ≤ b324 := by rw [W326.eq]; exact GI56.size
      have l331 : ∀ k, Value.ownBlock (.slice va i vc) = some k → k < b324 := fun k e => by rw [W326.eq]; exact ow_in oVI56 k e
      have l332 : ∀ k, Value.ownBlock (.slice ma ((restTo (dsX X) (i)).length) mc) = some k → k < b324 := fun k e => by rw [W326.eq]; exact ow_in oMI56 k e
      have G333 := GI56.trans W326.gr
      have B334 := kb3I56.gr W326.gr
      have B335 := kb9I56.gr W326.gr
      have B336 := kb19I56.gr W326.gr
      have z337 := Nat.le_trans zh1I56 W326.gr.size
      have O338 := ow_gr oVI56 W326.gr
      have O339 := ow_gr oMI56 W326.gr
      obtain ⟨i340, i340a, i340b, i340c, i340d⟩ := info_of (show (Try.prog.info? 3).map (fun i => (i.zero, i.size, i.bytes)) = some (some (.int .i64 0), 1, 8) by kernel_rfl)
      refine s_app (base := h1) (n := i) (xs := flatI (runsTo (dsX X) i)) (m := 1) (news := [.int .i64 (n : Int)]) n323.ok (wn _ rfl) rfl Try.underlying27 i340a i340b i340c i340d rfl (by omega) (n323.ne rfl (n321.ne rfl n319.at_)) O338 n323.at_ rfl (fun j u hj => bk_cells W326.bk j u hj) (fun u hu => by simp at hu; subst hu; rfl) (by simp only [maxLen]; omega) (by omega) z337 (fun an341 w342 v343 O346 gg347 n341 => ?_)
      obtain ⟨a344, c345, rfl, c345l⟩ := ow_form O346
      have G348 := Gr.grown G333 gg347 (fun k e => Nat.le_trans l35 (ow_lt O338 k e))
      have B349 := B334.grown gg347 (ow_lt O338) l32
      have B350 := B335.grown gg347 (ow_lt O338) l33
      have B351 := B336.grown gg347 (ow_lt O338) l34
      have B352 := W326.bk.grown_ne gg347 l331
      have z353 := Nat.le_trans z337 gg347.size
      have O354 := ow_grown O339 O338 gg347 rfl
      have O355 : w342.ownsRow h1 3 1 (.slice a344 (i + 1) c345) (i + 1) (flatI (runsTo (dsX X) (i + 1))) := by rw [runsTo_succ, hR, ← flatI_snoc]; exact O346
      have e356 := n341.ne rfl (n323.ne rfl (n321.ne rfl (n319.ne rfl (n318.ne rfl e317))))
      refine sv n341.ok rfl (wn _ rfl) rfl (o_fa (z := 1) e356 Try.underlying30 rfl (by kernel_rfl) rfl rfl) (fun an357 n357 => ?_)
      refine ssC rfl (wn _ rfl) (o_st n357.at_ (n357.ne rfl n341.at_) B351 rfl (by kernel_rfl) rfl) B351 (fun w358 u359 u359b => ?_)
      have G360 : Gr w w358 := Below.upd G348 l24 u359
      have B361 := B349.upd u359 (Nat.ne_of_lt l22)
      have B362 := B350.upd u359 (Nat.ne_of_lt l23)
      have B363 := B352.upd u359 (Nat.ne_of_gt l329)
      have z364 : h1 ≤ w358.heap.size := by rw [u359.size]; exact z353
      have O365 := ow_upd O355 u359 l34
      have O366 := ow_upd O354 u359 l34
      refine wpList_nil ?_
      refine th_n (hK316 _ _ ?_)
      refine wp_seq_k (fun K367 hK367 => ?_)
      refine wp_region_lit ?_
      have e368 := n357.ne rfl (n341.ne rfl (n323.ne rfl (n321.ne rfl e320)))
      refine sv n357.ok rfl (wn _ rfl) rfl (o_mv e368) (fun an369 n369 => ?_)
      refine sv n369.ok rfl (wn _ rfl) rfl (o_add (r := ((n + 2 : Nat) : Int)) n369.at_ ev_const (by omega) (by omega)) (fun an370 n370 => ?_)
      refine sv n370.ok rfl (wn _ rfl) rfl (o_as n370.at_) (fun an371 n371 => ?_)
      refine wpList_nil ?_
      refine th_n (hK367 _ _ ?_)
      refine wp_block ?_
      have hst : restTo (dsX X) i ++ restB (dsX X) i (n + 2) = restTo (dsX X) i := by rw [restB_start (dsX X) i (n + 2) (by omega), List.append_nil]
      have e373 := n371.ne rfl (n370.ne rfl (n369.ne rfl (n357.ne rfl (n341.ne rfl (n323.ne rfl (n321.ne rfl (n319.ne rfl (n318.ne rfl (n315.ne rfl (n313.ne rfl (n312.ne rfl (n311.ne rfl (n309.ne rfl (n308.ne rfl (n307.ne rfl (n69.ne rfl (n68.ne rfl (n67.ne rfl s1I56))))))))))))))))))
      have e374 := n371.ne rfl (n370.ne rfl (n369.ne rfl (n357.ne rfl (n341.ne rfl (n323.ne rfl (n321.ne rfl (n319.ne rfl (n318.ne rfl (n315.ne rfl (n313.ne rfl (n312.ne rfl (n311.ne rfl (n309.ne rfl (n308.ne rfl (n307.ne rfl (n69.ne rfl (n68.ne rfl (n67.ne rfl s2I56))))))))))))))))))
      have e375 := n371.ne rfl (n370.ne rfl (n369.ne rfl (n357.ne rfl (n341.ne rfl (n323.ne rfl (n321.ne rfl (n319.ne rfl (n318.ne rfl (n315.ne rfl (n313.ne rfl (n312.ne rfl (n311.ne rfl (n309.ne rfl (n308.ne rfl (n307.ne rfl (n69.ne rfl (n68.ne rfl (n67.ne rfl s3I56))))))))))))))))))
      have e376 := n371.ne rfl (n370.ne rfl (n369.ne rfl (n357.ne rfl e356)))
      have e377 := n371.ne rfl (n370.ne rfl (n369.ne rfl (n357.ne rfl (n341.ne rfl (n323.ne rfl (n321.ne rfl (n319.ne rfl (n318.ne rfl (n315.ne rfl (n313.ne rfl (n312.ne rfl (n311.ne rfl (n309.ne rfl (n308.ne rfl (n307.ne rfl (n69.ne rfl (n68.ne rfl (n67.ne rfl s5I56))))))))))))))))))
      have e378 := n371.ne rfl (n370.ne rfl (n369.ne rfl (n357.ne rfl (n341.ne rfl (n323.ne rfl (n321.ne rfl (n319.ne rfl (n318.ne rfl (n315.ne rfl (n313.ne rfl (n312.ne rfl (n311.ne rfl (n309.ne rfl (n308.ne rfl (n307.ne rfl (n69.ne rfl (n68.ne rfl (n67.ne rfl s9I56))))))))))))))))))
      refine lp (fun (nL : Nat) (aL : Act) (wL : World) => ∃ c : Nat, ∃ ma : Option Addr, ∃ mc : Nat, nL = 1002 - c ∧ Ok 77 aL ∧ Gr w wL ∧ (aL.eval (.tmp 1) = .pointer (some ⟨b3, 0, none⟩)) ∧ (aL.eval (.tmp 2) = .pointer (some ⟨b9, 0, none⟩)) ∧ (aL.eval (.tmp 3) = .bool false) ∧ (aL.eval (.tmp 4) = .pointer (some ⟨b19, 0, none⟩)) ∧ (aL.eval (.tmp 5) = .int .i64 (i : Int)) ∧ (aL.eval (.tmp 7) = .int .i64 (c : Int)) ∧ (aL.eval (.tmp 9) = .int .i64 (i : Int)) ∧ (Bk wL b3 (wArr X) 87) ∧ (Bk wL b9 #[.slice none 0 0, .slice none 0 0] 30) ∧ (Bk wL b19 #[.slice a344 (i + 1) c345, .slice ma ((restTo (dsX X) i ++ restB (dsX X) i c).length) mc] 30) ∧ (World.ownsRow wL h1 3 1 (.slice a344 (i + 1) c345) (i + 1) (flatI (runsTo (dsX X) (i + 1)))) ∧ (World.ownsRow wL h1 24 2 (.slice ma ((restTo (dsX X) i ++ restB (dsX X) i c).length) mc) ((restTo (dsX X) i ++ restB (dsX X) i c).length) (flat (pairs (restTo (dsX X) i ++ restB (dsX X) i c)))) ∧ (h1 ≤ wL.heap.size) ∧ (n + 2 ≤ c) ∧ (c ≤ 1001 ∨ c = n + 2)) _ ⟨n + 2, ma, mc, rfl, n371.ok, G360, e373, e374, e375, e376, e377, n371.at_, e378, B361, B362, (by rw [hst]; exact u359b), O365, (by rw [hst]; exact O366), z364, by omega, by omega⟩ ?_
      rintro m379 aI372 w381 ⟨c, ma, mc, hmI372, okI372, GI372, s1I372, s2I372, s3I372, s4I372, s5I372, s7I372, s9I372, kb3I372, kb9I372, kb19I372, oVI372, oMI372, zh1I372, hc1I372, hc2I372⟩ KI372 hKI372
      refine wp_seq_k (fun K382 hK382 => ?_)
      refine wp_seq_k (fun K383 hK383 => ?_)
      refine wp_region_lit ?_
      refine sv okI372 rfl (wn _ rfl) rfl (o_mv s7I372) (fun an384 n384 => ?_)
      refine sv n384.ok rfl (wn _ rfl) rfl (o_leI n384.at_ ev_const) (fun an385 n385 => ?_)
      refine wpList_nil ?_
      refine th_n (hK383 _ _ ?_)
      by_cases c386 : (c : Int) ≤ 1000
      · refine wp_cond_true ((n385.at_).trans (congrArg Value.bool (decide_eq_true c386))) ?_
        refine wp_skip ?_
        refine th_n (hK382 _ _ ?_)
        refine wp_seq_k (fun K387 hK387 => ?_)
        refine wp_block ?_
        refine wp_seq_k (fun K388 hK388 => ?_)
        refine wp_region_lit ?_
        refine sv n385.ok rfl (wn _ rfl) rfl (o_mv (n385.ne rfl (n384.ne rfl s5I372))) (fun an389 n389 => ?_)
        have e390 := n389.ne rfl (n385.ne rfl (n384.ne rfl s7I372))
        refine sv n389.ok rfl (wn _ rfl) rfl (o_mv e390) (fun an391 n391 => ?_)
        refine sv n391.ok rfl (wn _ rfl) rfl (o_bd (cells := #[.int .i64 (i : Int), .int .i64 (c : Int)]) (vs := [(0, .int .i64 (i : Int)), (1, .int .i64 (c : Int))]) (by simp [(n391.ne rfl n389.at_), n391.at_, ev_const]) (by kernel_rfl)) (fun an392 n392 => ?_)
        refine sal (cs := #[.int .i64 0, .int .i64 0]) n392.ok rfl (wn _ rfl) rfl (o_al (z := .agg #[.int .i64 0, .int .i64 0]) (by kernel_rfl)) (fun an393 w395 b394 W396 n393 => ?_)
        have l397 : b3 < b394 := by rw [W396.eq]; exact kb3I372.lt
        have l398 : b9 < b394 := by rw [W396.eq]; exact kb9I372.lt
        have l399 : b19 < b394 := by rw [W396.eq]; exact kb19I372.lt
        have l400 : w.heap.size ≤ b394 := by rw [W396.eq]; exact GI372.size
        have l401 : ∀ k, Value.ownBlock (.slice a344 (i + 1) c345) = some k → k < b394 := fun k e => by rw [W396.eq]; exact ow_in oVI372 k e
        have l402 : ∀ k, Value.ownBlock (.slice ma ((restTo (dsX X) i ++ restB (dsX X) i c).length) mc) = some k → k < b394 := fun k e => by rw [W396.eq]; exact ow_in oMI372 k e
        have G403 := GI372.trans W396.gr
        have B404 := kb3I372.gr W396.gr
        have B405 := kb9I372.gr W396.gr
        have B406 := kb19I372.gr W396.gr
        have z407 := Nat.le_trans zh1I372 W396.gr.size
        have O408 := ow_gr oVI372 W396.gr
        have O409 := ow_gr oMI372 W396.gr
        refine ssR rfl (wn _ rfl) (o_stR n393.at_ (n393.ne rfl n392.at_) W396.bk (by kernel_rfl) rfl (by simp [Value.oneCell'])) W396.bk (fun w410 u411 u411b => ?_)
        have G412 : Gr w w410 := Below.upd G403 l400 u411
        have B413 := B404.upd u411 (Nat.ne_of_lt l397)
        have B414 := B405.upd u411 (Nat.ne_of_lt l398)
        have B415 := B406.upd u411 (Nat.ne_of_lt l399)
        have z416 : h1 ≤ w410.heap.size := by rw [u411.size]; exact z407
        have O417 := ow_upd_ne O408 u411 l401
        have O418 := ow_upd_ne O409 u411 l402
        refine wpList_nil ?_
        refine th_n (hK388 _ _ ?_)
        refine wp_seq_k (fun K419 hK419 => ?_)
        refine wp_region_lit ?_
        have e420 := n393.ne rfl (n392.ne rfl (n391.ne rfl (n389.ne rfl (n385.ne rfl (n384.ne rfl s1I372)))))
        refine sv n393.ok rfl (wn _ rfl) rfl (o_ldR e420 B413 Try.underlying87 rfl (dots_sz X)) (fun an421 n421 => ?_)
        refine sv n421.ok rfl (wn _ rfl) rfl (o_ldR (n421.ne rfl n393.at_) u411b Try.underlying24 rfl (by kernel_rfl)) (fun an422 n422 => ?_)
        refine sc n422.ok rfl (wn _ rfl) rfl (o_f2 Try.func57 rfl rfl rfl (n422.ne rfl n421.at_) n422.at_) (rhas_any X (i) (c) w410 hX (by omega) (by omega)) ?_
        rintro _ w424 ⟨rfl, g425⟩
        refine ⟨_, rfl, fun an423 n423 => ?_⟩
        have G426 := G412.trans g425
        have B427 := B413.gr g425
        have B428 := B414.gr g425
        have B429 := B415.gr g425
        have B430 := u411b.gr g425
        have z431 := Nat.le_trans z416 g425.size
        have O432 := ow_gr O417 g425
        have O433 := ow_gr O418 g425
        refine wpList_nil ?_
        refine th_n (hK419 _ _ ?_)
        cases c434 : (dsX X (i) (c))
        · refine wp_cond_false ((n423.at_).trans (congrArg Value.bool (c434))) ?_
          have h41 : (dsX X) i c = false := c434
          refine wp_skip ?_
          refine ib_n ?_
          refine th_n (hK387 _ _ ?_)
          refine wp_region_lit ?_
          have e435 := n423.ne rfl (n422.ne rfl (n421.ne rfl (n393.ne rfl (n392.ne rfl (n391.ne rfl e390)))))
          refine sv n423.ok rfl (wn _ rfl) rfl (o_mv e435) (fun an436 n436 => ?_)
          refine sv n436.ok rfl (wn _ rfl) rfl (o_add (r := ((c + 1 : Nat) : Int)) n436.at_ ev_const (by omega) (by omega)) (fun an437 n437 => ?_)
          refine sv n437.ok rfl (wn _ rfl) rfl (o_as n437.at_) (fun an438 n438 => ?_)
          refine wpList_nil ?_
          have e439 := n438.ne rfl (n437.ne rfl (n436.ne rfl (n423.ne rfl (n422.ne rfl (n421.ne rfl e420)))))
          have e440 := n438.ne rfl (n437.ne rfl (n436.ne rfl (n423.ne rfl (n422.ne rfl (n421.ne rfl (n393.ne rfl (n392.ne rfl (n391.ne rfl (n389.ne rfl (n385.ne rfl (n384.ne rfl s2I372)))))))))))
          have e441 := n438.ne rfl (n437.ne rfl (n436.ne rfl (n423.ne rfl (n422.ne rfl (n421.ne rfl (n393.ne rfl (n392.ne rfl (n391.ne rfl (n389.ne rfl (n385.ne rfl (n384.ne rfl s3I372)))))))))))
          have e442 := n438.ne rfl (n437.ne rfl (n436.ne rfl (n423.ne rfl (n422.ne rfl (n421.ne rfl (n393.ne rfl (n392.ne rfl (n391.ne rfl (n389.ne rfl (n385.ne rfl (n384.ne rfl s4I372)))))))))))
          have e443 := n438.ne rfl (n437.ne rfl (n436.ne rfl (n423.ne rfl (n422.ne rfl (n421.ne rfl (n393.ne rfl (n392.ne rfl (n391.ne rfl (n389.ne rfl (n385.ne rfl (n384.ne rfl s5I372)))))))))))
          have e444 := n438.ne rfl (n437.ne rfl (n436.ne rfl (n423.ne rfl (n422.ne rfl (n421.ne rfl (n393.ne rfl (n392.ne rfl (n391.ne rfl (n389.ne rfl (n385.ne rfl (n384.ne rfl s9I372)))))))))))
          exact th_n (hKI372 _ _ _ (by omega) ⟨c + 1, ma, mc, rfl, n438.ok, G426, e439, e440, e441, e442, e443, n438.at_, e444, B427, B428, (by rw [restB_no h41]; exact B429), O432, (by rw [restB_no h41]; exact O433), z431, by omega, by omega⟩)
        · refine wp_cond_true ((n423.at_).trans (congrArg Value.bool (c434))) ?_
          have h41 : (dsX X) i c = true := c434
          refine wp_region_lit ?_
          have e445 := n423.ne rfl (n422.ne rfl (n421.ne rfl (n393.ne rfl (n392.ne rfl (n391.ne rfl (n389.ne rfl (n385.ne rfl (n384.ne rfl s4I372))))))))
          refine sv n423.ok rfl (wn _ rfl) rfl (o_fa (z := 1) e445 Try.underlying30 rfl (by kernel_rfl) rfl rfl) (fun an446 n446 => ?_)
          refine sv n446.ok rfl (wn _ rfl) rfl (o_ld n446.at_ (Try.isAgg28 _) (B429.cell _ rfl)) (fun an447 n447 => ?_)
          have e448 := n447.ne rfl (n446.ne rfl (n423.ne rfl (n422.ne rfl (n421.ne rfl n393.at_))))
          refine sv n447.ok rfl (wn _ rfl) rfl (o_ldR e448 B430 Try.underlying24 rfl (by kernel_rfl)) (fun an449 n449 => ?_)
          obtain ⟨i450, i450a, i450b, i450c⟩ := info3_of (show (Try.prog.info? 24).map (fun i => (i.zero, i.size)) = some (some (.agg #[.int .i64 0, .int .i64 0]), 2) by kernel_rfl)
          refine sals (cs := #[.int .i64 (i : Int), .int .i64 (c : Int)]) n449.ok rfl (wn _ rfl) rfl (o_bs (vs := [(0, .agg #[.int .i64 (i : Int), .int .i64 (c : Int)])]) (by simp [n449.at_, ev_const]) Try.underlying28 i450a i450b (by rw [i450c]; rfl) (by rw [i450c]; rfl) (by rw [i450c]; kernel_rfl)) (fun an451 w453 b452 W454 n451 => ?_)
          have l455 : b3 < b452 := by rw [W454.eq]; exact B427.lt
          have l456 : b9 < b452 := by rw [W454.eq]; exact B428.lt
          have l457 : b19 < b452 := by rw [W454.eq]; exact B429.lt
          have l458 : b394 < b452 := by rw [W454.eq]; exact B430.lt
          have l459 : w.heap.size ≤ b452 := by rw [W454.eq]; exact G426.size
          have l460 : ∀ k, Value.ownBlock (.slice a344 (i + 1) c345) = some k → k < b452 := fun k e => by rw [W454.eq]; exact ow_in O432 k e
          have l461 : ∀ k, Value.ownBlock (.slice ma ((restTo (dsX X) i ++ restB (dsX X) i c).length) mc) = some k → k < b452 := fun k e => by rw [W454.eq]; exact ow_in O433 k e
          have G462 := G426.trans W454.gr
          have B463 := B427.gr W454.gr
          have B464 := B428.gr W454.gr
          have B465 := B429.gr W454.gr
          have B466 := B430.gr W454.gr
          have z467 := Nat.le_trans z431 W454.gr.size
          have O468 := ow_gr O432 W454.gr
          have O469 := ow_gr O433 W454.gr
          have hML : (restTo (dsX X) i ++ restB (dsX X) i c).length ≤ 6100 := rest_len (dsX X) i c (by omega) (by omega)
          have hap := restB_app (dsX X) i c (by omega) h41
          obtain ⟨i470, i470a, i470b, i470c, i470d⟩ := info_of (show (Try.prog.info? 24).map (fun i => (i.zero, i.size, i.bytes)) = some (some (.agg #[.int .i64 0, .int .i64 0]), 2, 16) by kernel_rfl)
          refine s_app (base := h1) (n := (restTo (dsX X) i ++ restB (dsX X) i c).length) (xs := flat (pairs (restTo (dsX X) i ++ restB (dsX X) i c))) (m := 1) (news := [.int .i64 (i : Int), .int .i64 (c : Int)]) n451.ok (wn _ rfl) rfl Try.underlying28 i470a i470b i470c i470d rfl (by omega) (n451.ne rfl (n449.ne rfl n447.at_)) O469 n451.at_ rfl (fun j u hj => bk_cells W454.bk j u hj) (fun u hu => by simp at hu; rcases hu with rfl | rfl <;> rfl) (by simp only [maxLen]; omega) (by omega) z467 (fun an471 w472 v473 O476 gg477 n471 => ?_)
          obtain ⟨a474, c475, rfl, c475l⟩ := ow_form O476
          have G478 := Gr.grown G462 gg477 (fun k e => Nat.le_trans l35 (ow_lt O469 k e))
          have B479 := B463.grown gg477 (ow_lt O469) l32
          have B480 := B464.grown gg477 (ow_lt O469) l33
          have B481 := B465.grown gg477 (ow_lt O469) l34
          have B482 := B466.grown_ne gg477 l402
          have B483 := W454.bk.grown_ne gg477 l461
          have z484 := Nat.le_trans z467 gg477.size
          have O485 := ow_grown O468 O469 gg477 rfl
          have O486 : w472.ownsRow h1 24 2 (.slice a474 ((restTo (dsX X) i ++ restB (dsX X) i c).length + 1) c475) ((restTo (dsX X) i ++ restB (dsX X) i c).length + 1) (flat (pairs (restTo (dsX X) i ++ restB (dsX X) i c)) ++ [.int .i64 (i : Int), .int .i64 (c : Int)]) := O476
          have e487 := n471.ne rfl (n451.ne rfl (n449.ne rfl (n447.ne rfl (n446.ne rfl e445))))
          refine sv n471.ok rfl (wn _ rfl) rfl (o_fa (z := 1) e487 Try.underlying30 rfl (by kernel_rfl) rfl rfl) (fun an488 n488 => ?_)
          refine ssC rfl (wn _ rfl) (o_st n488.at_ (n488.ne rfl n471.at_) B481 rfl (by kernel_rfl) rfl) B481 (fun w489 u490 u490b => ?_)
          have G491 : Gr w w489 := Below.upd G478 l24 u490
          have B492 := B479.upd u490 (Nat.ne_of_lt l22)
          have B493 := B480.upd u490 (Nat.ne_of_lt l23)
          have B494 := B482.upd u490 (Nat.ne_of_gt l399)
          have B495 := B483.upd u490 (Nat.ne_of_gt l457)
          have z496 : h1 ≤ w489.heap.size := by rw [u490.size]; exact z484
          have O497 := ow_upd O485 u490 l34
          have O498 := ow_upd O486 u490 l34
          refine wpList_nil ?_
          refine ib_n ?_
          refine th_n (hK387 _ _ ?_)
          refine wp_region_lit ?_
          have e499 := n488.ne rfl (n471.ne rfl (n451.ne rfl (n449.ne rfl (n447.ne rfl (n446.ne rfl (n423.ne rfl (n422.ne rfl (n421.ne rfl (n393.ne rfl (n392.ne rfl (n391.ne rfl e390)))))))))))
          refine sv n488.ok rfl (wn _ rfl) rfl (o_mv e499) (fun an500 n500 => ?_)
          refine sv n500.ok rfl (wn _ rfl) rfl (o_add (r := ((c + 1 : Nat) : Int)) n500.at_ ev_const (by omega) (by omega)) (fun an501 n501 => ?_)
          refine sv n501.ok rfl (wn _ rfl) rfl (o_as n501.at_) (fun an502 n502 => ?_)
          refine wpList_nil ?_
          have e503 := n502.ne rfl (n501.ne rfl (n500.ne rfl (n488.ne rfl (n471.ne rfl (n451.ne rfl (n449.ne rfl (n447.ne rfl (n446.ne rfl (n423.ne rfl (n422.ne rfl (n421.ne rfl e420)))))))))))
          have e504 := n502.ne rfl (n501.ne rfl (n500.ne rfl (n488.ne rfl (n471.ne rfl (n451.ne rfl (n449.ne rfl (n447.ne rfl (n446.ne rfl (n423.ne rfl (n422.ne rfl (n421.ne rfl (n393.ne rfl (n392.ne rfl (n391.ne rfl (n389.ne rfl (n385.ne rfl (n384.ne rfl s2I372)))))))))))))))))
          have e505 := n502.ne rfl (n501.ne rfl (n500.ne rfl (n488.ne rfl (n471.ne rfl (n451.ne rfl (n449.ne rfl (n447.ne rfl (n446.ne rfl (n423.ne rfl (n422.ne rfl (n421.ne rfl (n393.ne rfl (n392.ne rfl (n391.ne rfl (n389.ne rfl (n385.ne rfl (n384.ne rfl s3I372)))))))))))))))))
          have e506 := n502.ne rfl (n501.ne rfl (n500.ne rfl (n488.ne rfl e487)))
          have e507 := n502.ne rfl (n501.ne rfl (n500.ne rfl (n488.ne rfl (n471.ne rfl (n451.ne rfl (n449.ne rfl (n447.ne rfl (n446.ne rfl (n423.ne rfl (n422.ne rfl (n421.ne rfl (n393.ne rfl (n392.ne rfl (n391.ne rfl (n389.ne rfl (n385.ne rfl (n384.ne rfl s5I372)))))))))))))))))
          have e508 := n502.ne rfl (n501.ne rfl (n500.ne rfl (n488.ne rfl (n471.ne rfl (n451.ne rfl (n449.ne rfl (n447.ne rfl (n446.ne rfl (n423.ne rfl (n422.ne rfl (n421.ne rfl (n393.ne rfl (n392.ne rfl (n391.ne rfl (n389.ne rfl (n385.ne rfl (n384.ne rfl s9I372)))))))))))))))))
          exact th_n (hKI372 _ _ _ (by omega) ⟨c + 1, a474, c475, rfl, n502.ok, G491, e503, e504, e505, e506, e507, n502.at_, e508, B492, B493, (by rw [hap.1]; exact u490b), O497, (by rw [hap.1, hap.2, ← flatD_snoc]; exact O498), z496, by omega, by omega⟩)
      · refine wp_cond_false ((n385.at_).trans (congrArg Value.bool (decide_eq_false c386))) ?_
        refine wp_exit ?_
        refine th_x ?_
        refine th_x ?_
        refine ib_x ?_
        refine ib_n ?_
        refine th_n (hK49 _ _ ?_)
        refine wp_region_lit ?_
        refine sv n385.ok rfl (wn _ rfl) rfl (o_add (r := ((i + 1 : Nat) : Int)) (n385.ne rfl (n384.ne rfl s9I372)) ev_const (by omega) (by omega)) (fun an509 n509 => ?_)
        refine sv n509.ok rfl (wn _ rfl) rfl (o_mv n509.at_) (fun an510 n510 => ?_)
        refine wpList_nil ?_
        have hre : restTo (dsX X) i ++ restB (dsX X) i c = restTo (dsX X) (i + 1) := rest_end (dsX X) i c hc1I372 (by omega) hR
        have e511 := n510.ne rfl (n509.ne rfl (n385.ne rfl (n384.ne rfl s1I372)))
        have e512 := n510.ne rfl (n509.ne rfl (n385.ne rfl (n384.ne rfl s2I372)))
        have e513 := n510.ne rfl (n509.ne rfl (n385.ne rfl (n384.ne rfl s3I372)))
        have e514 := n510.ne rfl (n509.ne rfl (n385.ne rfl (n384.ne rfl s4I372)))
        exact th_n (hKI39 _ _ _ (by omega) ⟨i + 1, a344, c345, ma, mc, rfl, n510.ok, GI372, e511, e512, e513, e514, n510.at_, kb3I372, kb9I372, (by rw [← hre]; exact kb19I372), oVI372, (by rw [← hre]; exact oMI372), zh1I372, by omega⟩)
  · refine wp_cond_false ((n46.at_).trans (congrArg Value.bool (decide_eq_false c48))) ?_
    have hi5 : i = 5 := by omega
    refine wp_exit ?_
    refine th_x ?_
    refine th_x ?_
    refine ib_x ?_
    refine th_n (hK28 _ _ ?_)
    refine wp_seq_k (fun K515 hK515 => ?_)
    refine wp_block ?_
    subst hi5
    have htk : (runsTo (dsX X) 5).take 5 = runsTo (dsX X) 5 := List.take_of_length_le (by rw [runsTo_len]; omega)
    refine lp (fun (nL : Nat) (aL : Act) (wL : World) => ∃ q : Nat, ∃ ua : Option Addr, ∃ uc : Nat, nL = q ∧ Ok 77 aL ∧ Gr w wL ∧ (aL.eval (.tmp 2) = .pointer (some ⟨b9, 0, none⟩)) ∧ (aL.eval (.tmp 3) = .bool false) ∧ (aL.eval (.tmp 4) = .pointer (some ⟨b19, 0, none⟩)) ∧ (Bk wL b9 #[.slice none 0 0, .slice none 0 0] 30) ∧ (Bk wL b19 #[.slice ua q uc, .slice ma ((restTo (dsX X) (5)).length) mc] 30) ∧ (World.ownsRow wL h1 3 1 (.slice ua q uc) (q) (flatI ((runsTo (dsX X) 5).take q))) ∧ (World.ownsRow wL h1 24 2 (.slice ma ((restTo (dsX X) (5)).length) mc) ((restTo (dsX X) (5)).length) (flat (pairs (restTo (dsX X) 5)))) ∧ (h1 ≤ wL.heap.size) ∧ (q ≤ 5) ∧ (∀ s, q ≤ s → s < 5 → cv (runsTo (dsX X) 5) s = 0)) _ ⟨5, va, vc, rfl, n46.ok, GI39, (n46.ne rfl s2I39), (n46.ne rfl s3I39), (n46.ne rfl s4I39), kb9I39, kb19I39, (by rw [htk]; exact oVI39), oMI39, zh1I39, by omega, fun s h1 h2 => by omega⟩ ?_
    rintro m517 aI516 w519 ⟨q, ua, uc, hmI516, okI516, GI516, s2I516, s3I516, s4I516, kb9I516, kb19I516, oVI516, oMI516, zh1I516, hqI516, hzI516⟩ KI516 hKI516
    have hcap := own_cap oVI516
    refine wp_seq_k (fun K520 hK520 => ?_)
    refine wp_seq_k (fun K521 hK521 => ?_)
    refine wp_region_lit ?_
    refine sv okI516 rfl (wn _ rfl) rfl (o_fa (z := 1) s4I516 Try.underlying30 rfl (by kernel_rfl) rfl rfl) (fun an522 n522 => ?_)
    refine sv n522.ok rfl (wn _ rfl) rfl (o_ld n522.at_ (Try.isAgg27 _) (kb19I516.cell _ rfl)) (fun an523 n523 => ?_)
    refine sv n523.ok rfl (wn _ rfl) rfl (o_len n523.at_ Try.underlying27) (fun an524 n524 => ?_)
    refine sv n524.ok rfl (wn _ rfl) rfl (o_gtI n524.at_ ev_const) (fun an525 n525 => ?_)
    refine sv n525.ok rfl (wn _ rfl) rfl (o_mv n525.at_) (fun an526 n526 => ?_)
    by_cases c527 : (0 : Int) < (q : Int)
    · have e528 := (n526.at_).trans (congrArg Value.bool (decide_eq_true c527))
      have e529 := ((n526.ne rfl n525.at_)).trans (congrArg Value.bool (decide_eq_true c527))
      have e530 := n526.ne rfl (n525.ne rfl (n524.ne rfl (n523.ne rfl (n522.ne rfl s4I516))))
      refine sv n526.ok rfl (wgT rfl (yl 4 true rfl e528) rfl) rfl (o_fa (z := 1) e530 Try.underlying30 rfl (by kernel_rfl) rfl rfl) (fun an531 n531 => ?_)
      refine sv n531.ok rfl (wgT rfl (yl 4 true rfl (n531.ne rfl e528)) rfl) rfl (o_ld n531.at_ (Try.isAgg27 _) (kb19I516.cell _ rfl)) (fun an532 n532 => ?_)
      refine sv n532.ok rfl (wgT rfl (yl 4 true rfl (n532.ne rfl (n531.ne rfl e528))) rfl) rfl (o_fa (z := 1) (n532.ne rfl (n531.ne rfl e530)) Try.underlying30 rfl (by kernel_rfl) rfl rfl) (fun an533 n533 => ?_)
      have e534 := n533.ne rfl (n532.ne rfl (n531.ne rfl e528))
      refine sv n533.ok rfl (wgT rfl (yl 4 true rfl e534) rfl) rfl (o_ld n533.at_ (Try.isAgg27 _) (kb19I516.cell _ rfl)) (fun an535 n535 => ?_)
      refine sv n535.ok rfl (wgT rfl (yl 4 true rfl (n535.ne rfl e534)) rfl) rfl (o_len n535.at_ Try.underlying27) (fun an536 n536 => ?_)
      refine sv n536.ok rfl (wgT rfl (yl 4 true rfl (n536.ne rfl (n535.ne rfl e534))) rfl) rfl (o_sub (r := ((q - 1 : Nat) : Int)) n536.at_ ev_const (by omega) (by omega)) (fun an537 n537 => ?_)
      have e538 := n537.ne rfl (n536.ne rfl (n535.ne rfl e534))
      have e539 := n537.ne rfl (n536.ne rfl (n535.ne rfl (n533.ne rfl n532.at_)))
      obtain ⟨gVh540, h540a, -, h540c⟩ := ow_addr oVI516 (by omega)
      refine sv n537.ok rfl (wgT rfl (yl 4 true rfl e538) rfl) rfl (o_iaV (i := q - 1) (s := 1) h540a e539 n537.at_ Try.underlying27 (by kernel_rfl) (by omega)) (fun an541 n541 => ?_)
      refine sv n541.ok rfl (wgT rfl (yl 4 true rfl (n541.ne rfl e538)) rfl) rfl (o_ld n541.at_ (Try.isAgg3 _) (h540c _ _ (runs_take_at (dsX X) (by omega) (by omega)))) (fun an542 n542 => ?_)
      refine sv n542.ok rfl (wgT rfl (yl 4 true rfl (n542.ne rfl (n541.ne rfl e538))) rfl) rfl (o_eqI n542.at_ ev_const) (fun an543 n543 => ?_)
      have e544 := n543.ne rfl (n542.ne rfl (n541.ne rfl e538))
      refine sv n543.ok rfl (wn _ rfl) rfl (o_pkT e544 n543.at_) (fun an545 n545 => ?_)
      refine wpList_nil ?_
      refine th_n (hK521 _ _ ?_)
      by_cases c546 : ((run (dsX X) (q - 1) : Nat) : Int) = 0
      · refine wp_cond_true ((n545.at_).trans (congrArg Value.bool (decide_eq_true c546))) ?_
        have h62 : run (dsX X) (q - 1) = 0 := by omega
        refine wp_skip ?_
        refine th_n (hK520 _ _ ?_)
        refine wp_block ?_
        refine wp_region_lit ?_
        have e547 := n545.ne rfl (n543.ne rfl (n542.ne rfl (n541.ne rfl (n537.ne rfl (n536.ne rfl (n535.ne rfl (n533.ne rfl (n532.ne rfl (n531.ne rfl e530)))))))))
        refine sv n545.ok rfl (wn _ rfl) rfl (o_fa (z := 1) e547 Try.underlying30 rfl (by kernel_rfl) rfl rfl) (fun an548 n548 => ?_)
        refine sv n548.ok rfl (wn _ rfl) rfl (o_ld n548.at_ (Try.isAgg27 _) (kb19I516.cell _ rfl)) (fun an549 n549 => ?_)
        refine sv n549.ok rfl (wn _ rfl) rfl (o_fa (z := 1) (n549.ne rfl (n548.ne rfl e547)) Try.underlying30 rfl (by kernel_rfl) rfl rfl) (fun an550 n550 => ?_)
        refine sv n550.ok rfl (wn _ rfl) rfl (o_ld n550.at_ (Try.isAgg27 _) (kb19I516.cell _ rfl)) (fun an551 n551 => ?_)
        refine sv n551.ok rfl (wn _ rfl) rfl (o_len n551.at_ Try.underlying27) (fun an552 n552 => ?_)
        refine sv n552.ok rfl (wn _ rfl) rfl (o_sub (r := ((q - 1 : Nat) : Int)) n552.at_ ev_const (by omega) (by omega)) (fun an553 n553 => ?_)
        have e554 := n553.ne rfl (n552.ne rfl (n551.ne rfl (n550.ne rfl n549.at_)))
        refine sv n553.ok rfl (wn _ rfl) rfl (o_cut (k := q - 1) (s := 1) e554 n553.at_ Try.underlying27 (by kernel_rfl) (by omega)) (fun an555 n555 => ?_)
        have e556 := n555.ne rfl (n553.ne rfl (n552.ne rfl (n551.ne rfl (n550.ne rfl (n549.ne rfl (n548.ne rfl e547))))))
        refine sv n555.ok rfl (wn _ rfl) rfl (o_fa (z := 1) e556 Try.underlying30 rfl (by kernel_rfl) rfl rfl) (fun an557 n557 => ?_)
        refine ssC rfl (wn _ rfl) (o_st n557.at_ (n557.ne rfl n555.at_) kb19I516 rfl (by kernel_rfl) rfl) kb19I516 (fun w558 u559 u559b => ?_)
        have G560 : Gr w w558 := Below.upd GI516 l24 u559
        have B561 := kb9I516.upd u559 (Nat.ne_of_lt l23)
        have z562 : h1 ≤ w558.heap.size := by rw [u559.size]; exact zh1I516
        have O563 := ow_upd oVI516 u559 l34
        have O564 := ow_upd oMI516 u559 l34
        refine wpList_nil ?_
        refine ib_n ?_
        have e565 := n557.ne rfl (n555.ne rfl (n553.ne rfl (n552.ne rfl (n551.ne rfl (n550.ne rfl (n549.ne rfl (n548.ne rfl (n545.ne rfl (n543.ne rfl (n542.ne rfl (n541.ne rfl (n537.ne rfl (n536.ne rfl (n535.ne rfl (n533.ne rfl (n532.ne rfl (n531.ne rfl (n526.ne rfl (n525.ne rfl (n524.ne rfl (n523.ne rfl (n522.ne rfl s2I516))))))))))))))))))))))
        have e566 := n557.ne rfl (n555.ne rfl (n553.ne rfl (n552.ne rfl (n551.ne rfl (n550.ne rfl (n549.ne rfl (n548.ne rfl (n545.ne rfl (n543.ne rfl (n542.ne rfl (n541.ne rfl (n537.ne rfl (n536.ne rfl (n535.ne rfl (n533.ne rfl (n532.ne rfl (n531.ne rfl (n526.ne rfl (n525.ne rfl (n524.ne rfl (n523.ne rfl (n522.ne rfl s3I516))))))))))))))))))))))
        exact th_n (hKI516 _ _ _ (by omega) ⟨q - 1, ua, uc, rfl, n557.ok, G560, e565, e566, (n557.ne rfl e556), B561, u559b, (own_cut_runs (dsX X) (by omega) O563), O564, z562, by omega, zero_back hzI516 h62 (by omega) (by omega)⟩)
      · refine wp_cond_false ((n545.at_).trans (congrArg Value.bool (decide_eq_false c546))) ?_
        have h62 : run (dsX X) (q - 1) ≠ 0 := by omega
        have hFV := form_vec (dsX X) q hqI516 hzI516 (.inr ⟨by omega, h62⟩)
        refine wp_exit ?_
        refine th_x ?_
        refine th_x ?_
        refine ib_x ?_
        refine th_n (hK515 _ _ ?_)
        refine wp_seq_k (fun K567 hK567 => ?_)
        refine h_start [b9] 7 #[false, false, false, false, false, false, false] (by kernel_rfl) rfl rfl ?_
        have S568 := Sx.drew [b9] w519
        have g569 := (Gr.refl w519).drew
        generalize w519.drew = w570 at *
        have G571 := GI516.trans g569
        have B572 := kb9I516.gr g569
        have B573 := kb19I516.gr g569
        have z574 := Nat.le_trans zh1I516 g569.size
        have O575 := ow_gr oVI516 g569
        have O576 := ow_gr oMI516 g569
        have e577 := n545.ne rfl (n543.ne rfl (n542.ne rfl (n541.ne rfl (n537.ne rfl (n536.ne rfl (n535.ne rfl (n533.ne rfl (n532.ne rfl (n531.ne rfl e530)))))))))
        refine h_take (i := 0) (fuel := 6) n545.ok rfl rfl rfl (by kernel_rfl) (by kernel_rfl) (by kernel_rfl) (fun _ _ _ _ _ h => h) (wn _ rfl) (fun x hx => o_ldR e577 (Sx.bk hx kb19I516 (by simp <;> omega)) Try.underlying30 rfl (by kernel_rfl)) S568 (fun an578 n578 => ?_)
        refine h_take (i := 1) (fuel := 5) n578.ok rfl rfl rfl (by kernel_rfl) (by kernel_rfl) (by kernel_rfl) (fun _ _ _ _ _ h => h) (wn _ rfl) (fun x hx => o_fa (z := 1) (n578.ne rfl e577) Try.underlying30 rfl (by kernel_rfl) rfl rfl) S568 (fun an579 n579 => ?_)
        refine h_take (i := 2) (fuel := 4) n579.ok rfl rfl rfl (by kernel_rfl) (by kernel_rfl) (by kernel_rfl) (fun _ _ _ _ _ h => h) (wn _ rfl) (fun x hx => o_ld n579.at_ (Try.isAgg28 _) ((Sx.bk hx kb19I516 (by simp <;> omega)).cell _ rfl)) S568 (fun an580 n580 => ?_)
        refine h_take (i := 3) (fuel := 3) n580.ok rfl rfl rfl (by kernel_rfl) (by kernel_rfl) (by kernel_rfl) (fun _ _ _ _ _ h => h) (wn _ rfl) (fun x hx => o_len n580.at_ Try.underlying28) S568 (fun an581 n581 => ?_)
        refine h_take (i := 4) (fuel := 2) n581.ok rfl rfl rfl (by kernel_rfl) (by kernel_rfl) (by kernel_rfl) (fun _ _ _ _ _ h => h) (wn _ rfl) (fun x hx => o_leI n581.at_ ev_const) S568 (fun an582 n582 => ?_)
        have e583 := n582.ne rfl (n581.ne rfl (n580.ne rfl (n579.ne rfl (n578.ne rfl (n545.ne rfl (n543.ne rfl (n542.ne rfl (n541.ne rfl (n537.ne rfl (n536.ne rfl (n535.ne rfl (n533.ne rfl (n532.ne rfl (n531.ne rfl (n526.ne rfl (n525.ne rfl (n524.ne rfl (n523.ne rfl (n522.ne rfl s2I516)))))))))))))))))))
        have e584 := n582.ne rfl (n581.ne rfl (n580.ne rfl (n579.ne rfl n578.at_)))
        refine h_stR (i := 5) (fuel := 1) (by kernel_rfl) rfl rfl (wn _ rfl) (o_stR e583 e584 B572 (by kernel_rfl) rfl (by simp [Value.oneCell'])) B572 S568 (by simp) (fun w585 u586 u586b S587 => ?_)
        have G588 : Gr w w585 := Below.upd G571 l13 u586
        have B589 := B573.upd u586 (Nat.ne_of_gt l23)
        have z590 : h1 ≤ w585.heap.size := by rw [u586.size]; exact z574
        have O591 := ow_upd O575 u586 l33
        have O592 := ow_upd O576 u586 l33
        refine h_take (i := 6) (fuel := 0) n582.ok rfl rfl rfl (by kernel_rfl) (by kernel_rfl) (by kernel_rfl) (fun _ _ _ _ _ h => h) (wn _ rfl) (fun x hx => o_as n582.at_) S587 (fun an593 n593 => ?_)
        refine wpAnyH_done (by kernel_rfl) ?_ _
        refine th_n (hK567 _ _ ?_)
        refine wp_ret ?_
        exact ret2 n593.ok rfl (⟨_, _, (n593.ne rfl e583), ld_row u586b Try.underlying30 rfl (by kernel_rfl)⟩) (n593.at_) ⟨_, by rw [leI_dec]; rfl, ⟨_, _, rfl, (by rw [hFV]; exact own_take_len (dsX X) (own_less O591 l35)), own_less O592 l35⟩, G588⟩
    · have e594 := (n526.at_).trans (congrArg Value.bool (decide_eq_false c527))
      have e595 := ((n526.ne rfl n525.at_)).trans (congrArg Value.bool (decide_eq_false c527))
      have hFV := form_vec (dsX X) q hqI516 hzI516 (.inl (by omega))
      refine sn n526.ok rfl (wgF rfl (yl 4 false rfl e594) rfl) rfl (fun an596 n596 => ?_)
      refine sn n596.ok rfl (wgF rfl (yl 4 false rfl (n596.ne rfl e594)) rfl) rfl (fun an597 n597 => ?_)
      refine sn n597.ok rfl (wgF rfl (yl 4 false rfl (n597.ne rfl (n596.ne rfl e594))) rfl) rfl (fun an598 n598 => ?_)
      have e599 := n598.ne rfl (n597.ne rfl (n596.ne rfl e594))
      refine sn n598.ok rfl (wgF rfl (yl 4 false rfl e599) rfl) rfl (fun an600 n600 => ?_)
      refine sn n600.ok rfl (wgF rfl (yl 4 false rfl (n600.ne rfl e599)) rfl) rfl (fun an601 n601 => ?_)
      refine sn n601.ok rfl (wgF rfl (yl 4 false rfl (n601.ne rfl (n600.ne rfl e599))) rfl) rfl (fun an602 n602 => ?_)
      have e603 := n602.ne rfl (n601.ne rfl (n600.ne rfl e599))
      refine sn n602.ok rfl (wgF rfl (yl 4 false rfl e603) rfl) rfl (fun an604 n604 => ?_)
      refine sn n604.ok rfl (wgF rfl (yl 4 false rfl (n604.ne rfl e603)) rfl) rfl (fun an605 n605 => ?_)
      refine sn n605.ok rfl (wgF rfl (yl 4 false rfl (n605.ne rfl (n604.ne rfl e603))) rfl) rfl (fun an606 n606 => ?_)
      have e607 := n606.ne rfl (n605.ne rfl (n604.ne rfl e603))
      refine sv n606.ok rfl (wn _ rfl) rfl (o_pkF e607 ev_const) (fun an608 n608 => ?_)
      refine wpList_nil ?_
      refine th_n (hK521 _ _ ?_)
      refine wp_cond_false (n608.at_) ?_
      refine wp_exit ?_
      refine th_x ?_
      refine th_x ?_
      refine ib_x ?_
      refine th_n (hK515 _ _ ?_)
      refine wp_seq_k (fun K609 hK609 => ?_)
      refine h_start [b9] 7 #[false, false, false, false, false, false, false] (by kernel_rfl) rfl rfl ?_
      have S610 := Sx.drew [b9] w519
      have g611 := (Gr.refl w519).drew
      generalize w519.drew = w612 at *
      have G613 := GI516.trans g611
      have B614 := kb9I516.gr g611
      have B615 := kb19I516.gr g611
      have z616 := Nat.le_trans zh1I516 g611.size
      have O617 := ow_gr oVI516 g611
      have O618 := ow_gr oMI516 g611
      have e619 := n608.ne rfl (n606.ne rfl (n605.ne rfl (n604.ne rfl (n602.ne rfl (n601.ne rfl (n600.ne rfl (n598.ne rfl (n597.ne rfl (n596.ne rfl (n526.ne rfl (n525.ne rfl (n524.ne rfl (n523.ne rfl (n522.ne rfl s4I516))))))))))))))
      refine h_take (i := 0) (fuel := 6) n608.ok rfl rfl rfl (by kernel_rfl) (by kernel_rfl) (by kernel_rfl) (fun _ _ _ _ _ h => h) (wn _ rfl) (fun x hx => o_ldR e619 (Sx.bk hx kb19I516 (by simp <;> omega)) Try.underlying30 rfl (by kernel_rfl)) S610 (fun an620 n620 => ?_)
      refine h_take (i := 1) (fuel := 5) n620.ok rfl rfl rfl (by kernel_rfl) (by kernel_rfl) (by kernel_rfl) (fun _ _ _ _ _ h => h) (wn _ rfl) (fun x hx => o_fa (z := 1) (n620.ne rfl e619) Try.underlying30 rfl (by kernel_rfl) rfl rfl) S610 (fun an621 n621 => ?_)
      refine h_take (i := 2) (fuel := 4) n621.ok rfl rfl rfl (by kernel_rfl) (by kernel_rfl) (by kernel_rfl) (fun _ _ _ _ _ h => h) (wn _ rfl) (fun x hx => o_ld n621.at_ (Try.isAgg28 _) ((Sx.bk hx kb19I516 (by simp <;> omega)).cell _ rfl)) S610 (fun an622 n622 => ?_)
      refine h_take (i := 3) (fuel := 3) n622.ok rfl rfl rfl (by kernel_rfl) (by kernel_rfl) (by kernel_rfl) (fun _ _ _ _ _ h => h) (wn _ rfl) (fun x hx => o_len n622.at_ Try.underlying28) S610 (fun an623 n623 => ?_)
      refine h_take (i := 4) (fuel := 2) n623.ok rfl rfl rfl (by kernel_rfl) (by kernel_rfl) (by kernel_rfl) (fun _ _ _ _ _ h => h) (wn _ rfl) (fun x hx => o_leI n623.at_ ev_const) S610 (fun an624 n624 => ?_)
      have e625 := n624.ne rfl (n623.ne rfl (n622.ne rfl (n621.ne rfl (n620.ne rfl (n608.ne rfl (n606.ne rfl (n605.ne rfl (n604.ne rfl (n602.ne rfl (n601.ne rfl (n600.ne rfl (n598.ne rfl (n597.ne rfl (n596.ne rfl (n526.ne rfl (n525.ne rfl (n524.ne rfl (n523.ne rfl (n522.ne rfl s2I516)))))))))))))))))))
      have e626 := n624.ne rfl (n623.ne rfl (n622.ne rfl (n621.ne rfl n620.at_)))
      refine h_stR (i := 5) (fuel := 1) (by kernel_rfl) rfl rfl (wn _ rfl) (o_stR e625 e626 B614 (by kernel_rfl) rfl (by simp [Value.oneCell'])) B614 S610 (by simp) (fun w627 u628 u628b S629 => ?_)
      have G630 : Gr w w627 := Below.upd G613 l13 u628
      have B631 := B615.upd u628 (Nat.ne_of_gt l23)
      have z632 : h1 ≤ w627.heap.size := by rw [u628.size]; exact z616
      have O633 := ow_upd O617 u628 l33
      have O634 := ow_upd O618 u628 l33
      refine h_take (i := 6) (fuel := 0) n624.ok rfl rfl rfl (by kernel_rfl) (by kernel_rfl) (by kernel_rfl) (fun _ _ _ _ _ h => h) (wn _ rfl) (fun x hx => o_as n624.at_) S629 (fun an635 n635 => ?_)
      refine wpAnyH_done (by kernel_rfl) ?_ _
      refine th_n (hK609 _ _ ?_)
      refine wp_ret ?_
      exact ret2 n635.ok rfl (⟨_, _, (n635.ne rfl e625), ld_row u628b Try.underlying30 rfl (by kernel_rfl)⟩) (n635.at_) ⟨_, by rw [leI_dec]; rfl, ⟨_, _, rfl, (by rw [hFV]; exact own_take_len (dsX X) (own_less O633 l35)), own_less O634 l35⟩, G630⟩
end Go.Proofs.Ytoencnbpjjkjnaa

/- The document's sets of dots: All, Size, Formed. -/
set_option linter.unusedVariables false
set_option linter.unusedSimpArgs false
namespace Rm
open Go Go.RowKit Gx
theorem ne_nil_of_lt {α : Type} {l : List α} {i : Nat} (h : i < l.length) : l ≠ [] := fun e => by rw [e] at h; cases h
def RdI1 (w : World) (a : Option Addr) (V : List Int) : Prop := V ≠ [] → ∃ b off, a = some ⟨b, off, none⟩ ∧ b < w.heap.size ∧ ∀ i x, V[i]? = some x → w.cell? ⟨b, off + i * 1, none⟩ = some (.int .i64 x)
def RdDI (w : World) (a : Option Addr) (M : List (Int × Int)) : Prop := M ≠ [] → ∃ b off, a = some ⟨b, off, none⟩ ∧ b < w.heap.size ∧ ∀ i (p : Int × Int), M[i]? = some p → w.cell? ⟨b, off + i * 2, none⟩ = some (.int .i64 p.1) ∧ w.cell? ⟨b, off + i * 2 + 1, none⟩ = some (.int .i64 p.2)
def RdN1 (w : World) (a : Option Addr) (V : List Nat) : Prop := V ≠ [] → ∃ b off, a = some ⟨b, off, none⟩ ∧ b < w.heap.size ∧ ∀ (i : Nat) (x : Nat), V[i]? = some x → w.cell? ⟨b, off + i * 1, none⟩ = some (.int .i64 (x : Int))
def RdDN (w : World) (a : Option Addr) (M : List (Nat × Nat)) : Prop := M ≠ [] → ∃ b off, a = some ⟨b, off, none⟩ ∧ b < w.heap.size ∧ ∀ i (p : Nat × Nat), M[i]? = some p → w.cell? ⟨b, off + i * 2, none⟩ = some (.int .i64 (p.1 : Int)) ∧ w.cell? ⟨b, off + i * 2 + 1, none⟩ = some (.int .i64 (p.2 : Int))
theorem RdI1.nat {w : World} {a : Option Addr} {V : List Nat} (h : RdI1 w a (ints V)) : RdN1 w a V := fun hn => by
  obtain ⟨b, off, h1, h2, h3⟩ := h (by simpa [ints] using hn)
  exact ⟨b, off, h1, h2, fun i x hx => h3 i _ (ints_at hx)⟩
theorem RdDI.nat {w : World} {a : Option Addr} {M : List (Nat × Nat)} (h : RdDI w a (pairs M)) : RdDN w a M := fun hn => by
  obtain ⟨b, off, h1, h2, h3⟩ := h (by simpa [pairs] using hn)
  exact ⟨b, off, h1, h2, fun i p hx => h3 i ((p.1 : Int), (p.2 : Int)) (by simp [pairs, hx])⟩
theorem knr_form {w : World} {k : Value} {V : List Int} {M : List (Int × Int)} (h : KnR w k V M) : ∃ va vc ma mc, k = .agg #[.slice va V.length vc, .slice ma M.length mc] ∧ RdI1 w va V ∧ RdDI w ma M := by
  obtain ⟨vv, mv, rfl, ⟨va, vc, rfl, -, hv⟩, ⟨ma, mc, rfl, -, hm⟩, -⟩ := h
  refine ⟨va, vc, ma, mc, rfl, fun hn => ?_, hm⟩
  obtain ⟨b, off, e, hb, hx⟩ := hv hn
  exact ⟨b, off, e, hb, fun i x h => by rw [Nat.mul_one]; exact hx i x h⟩
theorem two_cells {w : World} {b k : Nat} {x y : Value} (h1 : w.cell? ⟨b, k, none⟩ = some x) (h2 : w.cell? ⟨b, k + 1, none⟩ = some y) : ∀ j v, ([x, y] : List Value)[j]? = some v → w.cell? ⟨b, k + j, none⟩ = some v := by
  intro j v hv
  match j, hv with
  | 0, hv => simp at hv; subst hv; exact h1
  | 1, hv => simp at hv; subst hv; exact h2
  | j + 2, hv => simp at hv
theorem cells_to {w w' : World} {b k : Nat} {cs : List Value} (h : ∀ j, w'.cell? ⟨b, j, none⟩ = w.cell? ⟨b, j, none⟩) (hc : ∀ j v, cs[j]? = some v → w.cell? ⟨b, k + j, none⟩ = some v) : ∀ j v, cs[j]? = some v → w'.cell? ⟨b, k + j, none⟩ = some v :=
  fun j v hv => (h _).trans (hc j v hv)
theorem cv_at {v : List Nat} {i x : Nat} (h : v[i]? = some x) : cv v i = x := by simp [cv, List.getD, h]
theorem withX_off (X : Nat → Nat) (i c : Nat) : (fun q => if q = 0 + i * 16 + (c / 64) * 1 then X (0 + i * 16 + (c / 64) * 1) ||| 2 ^ (c % 64) else X q) = withX X i c := by
  funext q
  unfold withX
  rw [Nat.zero_add, Nat.mul_one]
  by_cases e : q = i * 16 + c / 64
  · rw [if_pos e, if_pos e, e]
  · rw [if_neg e, if_neg e]
theorem all_step {X : Nat → Nat} {v : List Nat} {i c : Nat} (hc : c < 1024) (h1 : 1 ≤ c)
    (h : ∀ s q, s < 5 → q < 1024 → dsX X s q = decide (s < i ∧ 1 ≤ q ∧ q ≤ cv v s ∨ s = i ∧ 1 ≤ q ∧ q < c)) :
    ∀ s q, s < 5 → q < 1024 → dsX (withX X i c) s q = decide (s < i ∧ 1 ≤ q ∧ q ≤ cv v s ∨ s = i ∧ 1 ≤ q ∧ q < c + 1) := by
  intro s q hs hq
  rw [dsX_with X i c s q hc hq, h s q hs hq, Bool.eq_iff_iff]
  simp only [Bool.or_eq_true, decide_eq_true_eq]
  omega
theorem all_next {X : Nat → Nat} {v : List Nat} {i c x : Nat} (hx : cv v i = x) (hc : c = x + 1)
    (h : ∀ s q, s < 5 → q < 1024 → dsX X s q = decide (s < i ∧ 1 ≤ q ∧ q ≤ cv v s ∨ s = i ∧ 1 ≤ q ∧ q < c)) :
    ∀ s q, s < 5 → q < 1024 → dsX X s q = decide (s < i + 1 ∧ 1 ≤ q ∧ q ≤ cv v s) := by
  intro s q hs hq
  rw [h s q hs hq, Bool.eq_iff_iff]
  simp only [decide_eq_true_eq]
  by_cases e : s = i
  · subst e; omega
  · omega
theorem all_mid {X : Nat → Nat} {v : List Nat} {n : Nat} (hn : v.length ≤ n)
    (h : ∀ s q, s < 5 → q < 1024 → dsX X s q = decide (s < n ∧ 1 ≤ q ∧ q ≤ cv v s)) (m : List (Nat × Nat)) :
    ∀ s q, s < 5 → q < 1024 → dsX X s q = memB v (m.take 0) s q := by
  intro s q hs hq
  rw [h s q hs hq, Bool.eq_iff_iff, memB_iff]
  simp only [decide_eq_true_eq, List.take_zero, List.not_mem_nil, or_false]
  by_cases e : s < n
  · omega
  · have := cv_out (v := v) (s := s) (by omega)
    omega
theorem all_more {X : Nat → Nat} {v : List Nat} {m : List (Nat × Nat)} {k x y : Nat} (hm : m[k]? = some (x, y)) (hy : y < 1024)
    (h : ∀ s q, s < 5 → q < 1024 → dsX X s q = memB v (m.take k) s q) :
    ∀ s q, s < 5 → q < 1024 → dsX (withX X x y) s q = memB v (m.take (k + 1)) s q := by
  intro s q hs hq
  rw [dsX_with X x y s q hy hq, h s q hs hq, Bool.eq_iff_iff]
  simp only [Bool.or_eq_true, memB_iff, decide_eq_true_eq]
  rw [List.take_add_one, hm]
  simp only [Option.toList_some, List.mem_append, List.mem_singleton, Prod.mk.injEq]
  constructor
  · rintro ((q1 | q1) | q1)
    · exact .inl q1
    · exact .inr (.inl q1)
    · exact .inr (.inr q1)
  · rintro (q1 | q1 | q1)
    · exact .inl (.inl q1)
    · exact .inl (.inr q1)
    · exact .inr q1
theorem pow_lt64 (r : Nat) (h : r < 64) : 2 ^ r < 2 ^ 64 := Nat.pow_lt_pow_right (by omega) h
end Rm
namespace Gx
open Go Go.RowKit Rm
theorem Sx.cell {bs : List Nat} {w x : World} {b o : Nat} (h : Sx bs w x) (hn : b ∉ bs) : x.cell? ⟨b, o, none⟩ = w.cell? ⟨b, o, none⟩ := by
  unfold World.cell?
  rw [h b hn]
section
variable {P : Program} {ev : Operand → Value} {d : Option Tmp} {ty : TypeId} {p : String} {af : Array Edge} {g : Option (Nat × Bool)} {w : World}
theorem o_shlU {t t' : TypeId} {x y : Operand} {j : Nat} (hx : ev x = .int .u64 1) (hy : ev y = .int .i64 (j : Int)) (hj : j < 64) : (execOp ev (Oper.mk d (.binOp .shl t x y t') ty p af g)).run Go.Proofs.Try.prog w = .ok (.value (.int .u64 ((2 ^ j : Nat) : Int))) w := by
  have h := Go.Proofs.Ytoencnbpjjkjnaa.shl64 t j hj w
  have h3 : 2 ^ j < 2 ^ 64 := Nat.pow_lt_pow_right (by omega) hj
  have h2 : IntKind.u64.wrap ((2 : Int) ^ j) = (2 : Int) ^ j := by
    rw [show (2 : Int) ^ j = ((2 ^ j : Nat) : Int) by simp]
    exact IntWalk.u64_in _ ⟨Int.natCast_nonneg _, by omega⟩
  simp [execOp, hx, hy, eqGuard, h, h2, go_sem]
end
end Gx
namespace Go.Proofs.Ytoencnbpjjkjnaa
open Go.RowKit Rm Gx
set_option maxHeartbeats 8000000 in
set_option maxRecDepth 100000 in
theorem rall_k (va ma : Option Addr) (vc mc : Nat) (v : List Nat) (m : List (Nat × Nat)) (ok : OkV v m) (hl : m.length ≤ 60) (w : World) (hv : RdN1 w va v) (hm : RdDN w ma m) :
    Calls Try.prog 56 #[.agg #[.slice va v.length vc, .slice ma m.length mc]] w fun e w' => ∃ X, e = .returned (.agg (wArr X)) ∧ OkX X ∧ (∀ s q, s < 5 → q < 1024 → dsX X s q = memB v m s q) ∧ Gr w w' := by
  refine enter (N := 47) Try.func56 rfl rfl rfl (fun a0 ok0 h0 => ?_)
  have e0_0 : a0.eval (.tmp 0) = .agg #[.slice va v.length vc, .slice ma m.length mc] := h0 0 _ rfl
  clear h0
  have G0 := Gr.refl w
  refine wp_seq_k (fun K1 hK1 => ?_)
  refine wp_region_lit ?_
  refine sal (cs := #[.slice va v.length vc, .slice ma m.length mc]) ok0 rfl (wn _ rfl) rfl (o_box e0_0) (fun an2 w4 b3 W5 n2 => ?_)
  have l6 : w.heap.size ≤ b3 := by rw [W5.eq]; exact G0.size
  have G7 := G0.trans W5.gr
  refine sal (cs := wArr (fun _ => 0)) n2.ok rfl (wn _ rfl) rfl (o_al (z := .agg (wArr (fun _ => 0))) dots_zero) (fun an8 w10 b9 W11 n8 => ?_)
  have l12 : b3 < b9 := by rw [W11.eq]; exact W5.bk.lt
  have l13 : w.heap.size ≤ b9 := by rw [W11.eq]; exact G7.size
  have G14 := G7.trans W11.gr
  have B15 := W5.bk.gr W11.gr
  refine wpList_nil ?_
  refine th_n (hK1 _ _ ?_)
  refine wp_seq_k (fun K16 hK16 => ?_)
  refine wp_region_lit ?_
  refine sal (cs := wArr (fun _ => 0)) n8.ok rfl (wn _ rfl) rfl (o_al (z := .agg (wArr (fun _ => 0))) dots_zero) (fun an17 w19 b18 W20 n17 => ?_)
  have l21 : b3 < b18 := by rw [W20.eq]; exact B15.lt
  have l22 : b9 < b18 := by rw [W20.eq]; exact W11.bk.lt
  have l23 : w.heap.size ≤ b18 := by rw [W20.eq]; exact G14.size
  have G24 := G14.trans W20.gr
  have B25 := B15.gr W20.gr
  have B26 := W11.bk.gr W20.gr
  refine wpList_nil ?_
  refine th_n (hK16 _ _ ?_)
  refine wp_seq_k (fun K27 hK27 => ?_)
  refine wp_seq_k (fun K28 hK28 => ?_)
  refine wp_region_lit ?_
  refine sv n17.ok rfl (wn _ rfl) rfl (o_fa (z := 1) (n17.ne rfl (n8.ne rfl n2.at_)) Try.underlying30 rfl (by kernel_rfl) rfl rfl) (fun an29 n29 => ?_)
  refine sv n29.ok rfl (wn _ rfl) rfl (o_ld n29.at_ (Try.isAgg27 _) (B25.cell _ rfl)) (fun an30 n30 => ?_)
  refine sv n30.ok rfl (wn _ rfl) rfl (o_len n30.at_ Try.underlying27) (fun an31 n31 => ?_)
  refine sv n31.ok rfl (wn _ rfl) rfl (o_mv ev_const) (fun an32 n32 => ?_)
  refine wpList_nil ?_
  refine th_n (hK28 _ _ ?_)
  refine wp_block ?_
  have e34 := n32.ne rfl (n31.ne rfl (n30.ne rfl (n29.ne rfl (n17.ne rfl (n8.ne rfl n2.at_)))))
  have e35 := n32.ne rfl (n31.ne rfl (n30.ne rfl (n29.ne rfl (n17.ne rfl n8.at_))))
  have e36 := n32.ne rfl (n31.ne rfl (n30.ne rfl (n29.ne rfl n17.at_)))
  refine lp (fun (nL : Nat) (aL : Act) (wL : World) => ∃ i : Nat, ∃ X : Nat → Nat, nL = v.length - i ∧ Ok 47 aL ∧ Gr w wL ∧ (aL.eval (.tmp 1) = .pointer (some ⟨b3, 0, none⟩)) ∧ (aL.eval (.tmp 2) = .pointer (some ⟨b9, 0, none⟩)) ∧ (aL.eval (.tmp 3) = .pointer (some ⟨b18, 0, none⟩)) ∧ (aL.eval (.tmp 10) = .slice va v.length vc) ∧ (aL.eval (.tmp 11) = .int .i64 ((v.length : Nat) : Int)) ∧ (aL.eval (.tmp 12) = .int .i64 (i : Int)) ∧ (Bk wL b3 #[.slice va v.length vc, .slice ma m.length mc] 30) ∧ (Bk wL b9 (wArr (fun _ => 0)) 87) ∧ (Bk wL b18 (wArr X) 87) ∧ (i ≤ v.length) ∧ (OkX X) ∧ (∀ s q, s < 5 → q < 1024 → dsX X s q = decide (s < i ∧ 1 ≤ q ∧ q ≤ cv v s))) _ ⟨0, (fun _ => 0), rfl, n32.ok, G24, e34, e35, e36, (n32.ne rfl (n31.ne rfl n30.at_)), (n32.ne rfl n31.at_), n32.at_, B25, B26, W20.bk, by omega, OkX.zero, fun s q h1 h2 => by rw [dsX_zero]; simp⟩ ?_
  rintro m37 aI33 w39 ⟨i, X, hmI33, okI33, GI33, s1I33, s2I33, s3I33, s10I33, s11I33, s12I33, kb3I33, kb9I33, kb18I33, hiI33, hXI33, hDI33⟩ KI33 hKI33
  refine wp_seq_k (fun K40 hK40 => ?_)
  refine wp_region_lit ?_
  refine sv okI33 rfl (wn _ rfl) rfl (o_ltI s12I33 s11I33) (fun an41 n41 => ?_)
  refine wpList_nil ?_
  refine th_n (hK40 _ _ ?_)
  refine wp_seq_k (fun K42 hK42 => ?_)
  by_cases c43 : (i : Int) < ((v.length : Nat) : Int)
  · refine wp_cond_true ((n41.at_).trans (congrArg Value.bool (decide_eq_true c43))) ?_
    refine wp_skip ?_
    refine th_n (hK42 _ _ ?_)
    refine wp_seq_k (fun K44 hK44 => ?_)
    refine wp_block ?_
    refine wp_seq_k (fun K45 hK45 => ?_)
    refine wp_region_lit ?_
    refine sv n41.ok rfl (wn _ rfl) rfl (o_mv (n41.ne rfl s12I33)) (fun an46 n46 => ?_)
    have h47l : i < List.length v := by omega
    obtain ⟨bh47, fh47, h47a, h47b, h47c⟩ := hv (ne_nil_of_lt h47l)
    obtain ⟨xh47, h47x⟩ : ∃ x, v[i]? = some x := ⟨_, List.getElem?_eq_getElem h47l⟩
    have hleh47 : xh47 ≤ 1000 := ok.le _ (List.mem_of_getElem? h47x)
    have hcv := cv_at h47x
    have hlen5 := ok.len
    refine sv n46.ok rfl (wn _ rfl) rfl (o_iaV (i := i) (s := 1) h47a (n46.ne rfl (n41.ne rfl s10I33)) (n46.ne rfl (n41.ne rfl s12I33)) Try.underlying27 (by kernel_rfl) h47l) (fun an48 n48 => ?_)
    refine sv n48.ok rfl (wn _ rfl) rfl (o_ld n48.at_ (Try.isAgg3 _) ((Below.cell GI33 h47b).trans (h47c _ _ h47x))) (fun an49 n49 => ?_)
    refine sv n49.ok rfl (wn _ rfl) rfl (o_as (n49.ne rfl (n48.ne rfl n46.at_))) (fun an50 n50 => ?_)
    refine sv n50.ok rfl (wn _ rfl) rfl (o_as (n50.ne rfl n49.at_)) (fun an51 n51 => ?_)
    refine wpList_nil ?_
    refine th_n (hK45 _ _ ?_)
    refine wp_seq_k (fun K52 hK52 => ?_)
    refine wp_region_lit ?_
    refine sv n51.ok rfl (wn _ rfl) rfl (o_as ev_const) (fun an53 n53 => ?_)
    refine wpList_nil ?_
    refine th_n (hK52 _ _ ?_)
    refine wp_block ?_
    have e55 := n53.ne rfl (n51.ne rfl (n50.ne rfl (n49.ne rfl (n48.ne rfl (n46.ne rfl (n41.ne rfl s1I33))))))
    have e56 := n53.ne rfl (n51.ne rfl (n50.ne rfl (n49.ne rfl (n48.ne rfl (n46.ne rfl (n41.ne rfl s2I33))))))
    have e57 := n53.ne rfl (n51.ne rfl (n50.ne rfl (n49.ne rfl (n48.ne rfl (n46.ne rfl (n41.ne rfl s3I33))))))
    have e58 := n53.ne rfl (n51.ne rfl (n50.ne rfl (n49.ne rfl (n48.ne rfl (n46.ne rfl (n41.ne rfl s10I33))))))
    have e59 := n53.ne rfl (n51.ne rfl (n50.ne rfl (n49.ne rfl (n48.ne rfl (n46.ne rfl (n41.ne rfl s11I33))))))
    have e60 := n53.ne rfl (n51.ne rfl (n50.ne rfl (n49.ne rfl (n48.ne rfl (n46.ne rfl (n41.ne rfl s12I33))))))
    refine lp (fun (nL : Nat) (aL : Act) (wL : World) => ∃ c : Nat, ∃ X : Nat → Nat, nL = xh47 + 1 - c ∧ Ok 47 aL ∧ Gr w wL ∧ (aL.eval (.tmp 1) = .pointer (some ⟨b3, 0, none⟩)) ∧ (aL.eval (.tmp 2) = .pointer (some ⟨b9, 0, none⟩)) ∧ (aL.eval (.tmp 3) = .pointer (some ⟨b18, 0, none⟩)) ∧ (aL.eval (.tmp 4) = .int .i64 (i : Int)) ∧ (aL.eval (.tmp 5) = .int .i64 (xh47 : Int)) ∧ (aL.eval (.tmp 6) = .int .i64 (c : Int)) ∧ (aL.eval (.tmp 10) = .slice va v.length vc) ∧ (aL.eval (.tmp 11) = .int .i64 ((v.length : Nat) : Int)) ∧ (aL.eval (.tmp 12) = .int .i64 (i : Int)) ∧ (Bk wL b3 #[.slice va v.length vc, .slice ma m.length mc] 30) ∧ (Bk wL b9 (wArr (fun _ => 0)) 87) ∧ (Bk wL b18 (wArr X) 87) ∧ (1 ≤ c ∧ c ≤ xh47 + 1) ∧ (OkX X) ∧ (∀ s q, s < 5 → q < 1024 → dsX X s q = decide (s < i ∧ 1 ≤ q ∧ q ≤ cv v s ∨ s = i ∧ 1 ≤ q ∧ q < c))) _ ⟨1, X, rfl, n53.ok, GI33, e55, e56, e57, (n53.ne rfl (n51.ne rfl n50.at_)), (n53.ne rfl n51.at_), n53.at_, e58, e59, e60, kb3I33, kb9I33, kb18I33, by omega, hXI33, fun s q h1 h2 => by rw [hDI33 s q h1 h2, Bool.eq_iff_iff]; simp only [decide_eq_true_eq]; omega⟩ ?_
    rintro m61 aI54 w63 ⟨c, X, hmI54, okI54, GI54, s1I54, s2I54, s3I54, s4I54, s5I54, s6I54, s10I54, s11I54, s12I54, kb3I54, kb9I54, kb18I54, hcI54, hXI54, hDI54⟩ KI54 hKI54
    refine wp_seq_k (fun K64 hK64 => ?_)
    refine wp_seq_k (fun K65 hK65 => ?_)
    refine wp_region_lit ?_
    refine sv okI54 rfl (wn _ rfl) rfl (o_mv s6I54) (fun an66 n66 => ?_)
    refine sv n66.ok rfl (wn _ rfl) rfl (o_mv (n66.ne rfl s5I54)) (fun an67 n67 => ?_)
    refine sv n67.ok rfl (wn _ rfl) rfl (o_leI (n67.ne rfl n66.at_) n67.at_) (fun an68 n68 => ?_)
    refine wpList_nil ?_
    refine th_n (hK65 _ _ ?_)
    by_cases c69 : (c : Int) ≤ (xh47 : Int)
    · refine wp_cond_true ((n68.at_).trans (congrArg Value.bool (decide_eq_true c69))) ?_
      refine wp_skip ?_
      refine th_n (hK64 _ _ ?_)
      refine wp_seq_k (fun K70 hK70 => ?_)
      refine wp_block ?_
      refine reg_start (N := 47) (m := 12) (by kernel_rfl) (fun R710 => ?_)
      have e72 := n68.ne rfl (n67.ne rfl (n66.ne rfl s4I54))
      have R711 := R710.snoc (n' := 1) rfl (fun vJ _ => vJ = .int .i64 (i : Int)) rfl (fun _ _ _ _ h => h) (fun aS wS pS => by
          exact Does.val (wn _ rfl) (o_mv ((pS.old 4 rfl).trans e72)) (Gr.refl _) rfl rfl)
      have e73 := n68.ne rfl (n67.ne rfl (n66.ne rfl s6I54))
      have R712 := R711.snoc (n' := 2) rfl (fun vJ _ => vJ = .int .i64 (c : Int)) rfl (fun _ _ _ _ h => h) (fun aS wS pS => by
          exact Does.val (wn _ rfl) (o_mv ((pS.old 6 rfl).trans e73)) (Gr.refl _) rfl rfl)
      have R713 := R712.snoc (n' := 3) rfl (fun vJ _ => vJ = .int .i64 (((c) / 64 : Nat) : Int)) rfl (fun _ _ _ _ h => h) (fun aS wS pS => by
          have eR71_1 : aS.eval (.tmp 23) = .int .i64 (c : Int) := pS.pre 1 rfl
          exact Does.val (wn _ rfl) (o_quo (i := c) (j := 64) (eR71_1) ev_const (by omega) (by omega) rfl) (Gr.refl _) rfl rfl)
      have e74 := n68.ne rfl (n67.ne rfl (n66.ne rfl s3I54))
      have R714 := R713.snoc (n' := 4) rfl (fun vJ _ => vJ = .pointer (some ⟨b18, 0 + i * 16, none⟩)) rfl (fun _ _ _ _ h => h) (fun aS wS pS => by
          have eR71_0 : aS.eval (.tmp 22) = .int .i64 (i : Int) := pS.pre 0 rfl
          exact Does.val (wn _ rfl) (o_iaA (i := i) (s := 16) ((pS.old 3 rfl).trans e74) (eR71_0) Try.underlying87 (by kernel_rfl) (by omega)) (Gr.refl _) rfl rfl)
      have R715 := R714.snoc (n' := 5) rfl (fun vJ _ => vJ = .pointer (some ⟨b18, 0 + i * 16 + ((c) / 64) * 1, none⟩)) rfl (fun _ _ _ _ h => h) (fun aS wS pS => by
          have eR71_2 : aS.eval (.tmp 24) = .int .i64 (((c) / 64 : Nat) : Int) := pS.pre 2 rfl
          have eR71_3 : aS.eval (.tmp 25) = .pointer (some ⟨b18, 0 + i * 16, none⟩) := pS.pre 3 rfl
          exact Does.val (wn _ rfl) (o_iaA (i := (c) / 64) (s := 1) (eR71_3) (eR71_2) Try.underlying85 (by kernel_rfl) (by omega)) (Gr.refl _) rfl rfl)
      have R716 := R715.snoc (n' := 6) rfl (fun vJ _ => vJ = .int .u64 ((X (0 + i * 16 + ((c) / 64) * 1) : Nat) : Int)) rfl (fun _ _ _ _ h => h) (fun aS wS pS => by
          have eR71_4 : aS.eval (.tmp 26) = .pointer (some ⟨b18, 0 + i * 16 + ((c) / 64) * 1, none⟩) := pS.pre 4 rfl
          exact Does.val (wn _ rfl) (o_ld (eR71_4) (Try.isAgg84 _) ((Bk.gr kb18I54 (gr_drew pS.gr)).cell _ (wArr_at X (0 + i * 16 + ((c) / 64) * 1) (by omega)))) (Gr.refl _) rfl rfl)
      have R717 := R716.snoc (n' := 7) rfl (fun vJ _ => vJ = .int .i64 (c : Int)) rfl (fun _ _ _ _ h => h) (fun aS wS pS => by
          exact Does.val (wn _ rfl) (o_mv ((pS.old 6 rfl).trans e73)) (Gr.refl _) rfl rfl)
      have R718 := R717.snoc (n' := 8) rfl (fun vJ _ => vJ = .int .i64 (((c) % 64 : Nat) : Int)) rfl (fun _ _ _ _ h => h) (fun aS wS pS => by
          have eR71_6 : aS.eval (.tmp 28) = .int .i64 (c : Int) := pS.pre 6 rfl
          exact Does.val (wn _ rfl) (o_rem (i := c) (j := 64) (eR71_6) ev_const (by omega) rfl) (Gr.refl _) rfl rfl)
      have R719 := R718.snoc (n' := 9) rfl (fun vJ _ => vJ = .int .u64 ((2 ^ ((c) % 64) : Nat) : Int)) rfl (fun _ _ _ _ h => h) (fun aS wS pS => by
          have eR71_7 : aS.eval (.tmp 29) = .int .i64 (((c) % 64 : Nat) : Int) := pS.pre 7 rfl
          exact Does.val (wn _ rfl) (o_shlU (j := (c) % 64) ev_const (eR71_7) (by omega)) (Gr.refl _) rfl rfl)
      have R7110 := R719.snoc (n' := 10) rfl (fun vJ _ => vJ = .int .u64 ((X (0 + i * 16 + ((c) / 64) * 1) ||| 2 ^ ((c) % 64) : Nat) : Int)) rfl (fun _ _ _ _ h => h) (fun aS wS pS => by
          have eR71_5 : aS.eval (.tmp 27) = .int .u64 ((X (0 + i * 16 + ((c) / 64) * 1) : Nat) : Int) := pS.pre 5 rfl
          have eR71_8 : aS.eval (.tmp 30) = .int .u64 ((2 ^ ((c) % 64) : Nat) : Int) := pS.pre 8 rfl
          exact Does.val (wn _ rfl) (o_orU (eR71_5) (eR71_8) (hXI54 _) (pow_lt64 _ (by omega))) (Gr.refl _) rfl rfl)
      have R7111 := R7110.snoc (n' := 11) rfl (fun vJ _ => vJ = .pointer (some ⟨b18, 0 + i * 16, none⟩)) rfl (fun _ _ _ _ h => h) (fun aS wS pS => by
          have eR71_0 : aS.eval (.tmp 22) = .int .i64 (i : Int) := pS.pre 0 rfl
          exact Does.val (wn _ rfl) (o_iaA (i := i) (s := 16) ((pS.old 3 rfl).trans e74) (eR71_0) Try.underlying87 (by kernel_rfl) (by omega)) (Gr.refl _) rfl rfl)
      have R7112 := R7111.snoc (n' := 12) rfl (fun vJ _ => vJ = .pointer (some ⟨b18, 0 + i * 16 + ((c) / 64) * 1, none⟩)) rfl (fun _ _ _ _ h => h) (fun aS wS pS => by
          have eR71_2 : aS.eval (.tmp 24) = .int .i64 (((c) / 64 : Nat) : Int) := pS.pre 2 rfl
          have eR71_10 : aS.eval (.tmp 32) = .pointer (some ⟨b18, 0 + i * 16, none⟩) := pS.pre 10 rfl
          exact Does.val (wn _ rfl) (o_iaA (i := (c) / 64) (s := 1) (eR71_10) (eR71_2) Try.underlying85 (by kernel_rfl) (by omega)) (Gr.refl _) rfl rfl)
      refine R7112.run (k := 1) (L := #[true, true, true, true, true, true, true, true, true, true, true, true, false]) (by kernel_rfl) (by kernel_rfl) (by kernel_rfl) n68.ok (by kernel_rfl) (by kernel_rfl) (fun ap76 w77 p76 => ?_)
      have g78 := gr_drew p76.gr
      have G79 := GI54.trans g78
      have B80 := kb3I54.gr g78
      have B81 := kb9I54.gr g78
      have B82 := kb18I54.gr g78
      have ep76_11 : ap76.eval (.tmp 33) = .pointer (some ⟨b18, 0 + i * 16 + ((c) / 64) * 1, none⟩) := p76.js 11 rfl
      have ep76_9 : ap76.eval (.tmp 31) = .int .u64 ((X (0 + i * 16 + ((c) / 64) * 1) ||| 2 ^ ((c) % 64) : Nat) : Int) := p76.js 9 rfl
      refine t_stC (i := 12) (by kernel_rfl) rfl rfl (wn _ rfl) (o_st ep76_11 ep76_9 B82 (wArr_at X (0 + i * 16 + ((c) / 64) * 1) (by omega)) (by kernel_rfl) rfl) B82 (fun w83 u84 u84b => ?_)
      have G85 : Gr w w83 := Below.upd G79 l23 u84
      have B86 := B80.upd u84 (Nat.ne_of_lt l21)
      have B87 := B81.upd u84 (Nat.ne_of_lt l22)
      have B88 : Bk w83 b18 (wArr (fun q => if q = 0 + i * 16 + ((c) / 64) * 1 then X (0 + i * 16 + ((c) / 64) * 1) ||| 2 ^ ((c) % 64) else X q)) 87 := (by rw [← wArr_set]; exact u84b)
      refine wpAny_done (by kernel_rfl) ?_ _
      refine ib_n ?_
      refine th_n (hK70 _ _ ?_)
      refine wp_region_lit ?_
      refine sv p76.ok rfl (wn _ rfl) rfl (o_mv ((p76.old 6 rfl).trans e73)) (fun an89 n89 => ?_)
      refine sv n89.ok rfl (wn _ rfl) rfl (o_add (r := ((c + 1 : Nat) : Int)) n89.at_ ev_const (by omega) (by omega)) (fun an90 n90 => ?_)
      refine sv n90.ok rfl (wn _ rfl) rfl (o_as n90.at_) (fun an91 n91 => ?_)
      refine wpList_nil ?_
      have e92 := n91.ne rfl (n90.ne rfl (n89.ne rfl ((p76.old 1 rfl).trans (n68.ne rfl (n67.ne rfl (n66.ne rfl s1I54))))))
      have e93 := n91.ne rfl (n90.ne rfl (n89.ne rfl ((p76.old 2 rfl).trans (n68.ne rfl (n67.ne rfl (n66.ne rfl s2I54))))))
      have e94 := n91.ne rfl (n90.ne rfl (n89.ne rfl ((p76.old 3 rfl).trans e74)))
      have e95 := n91.ne rfl (n90.ne rfl (n89.ne rfl ((p76.old 4 rfl).trans e72)))
      have e96 := n91.ne rfl (n90.ne rfl (n89.ne rfl ((p76.old 5 rfl).trans (n68.ne rfl (n67.ne rfl (n66.ne rfl s5I54))))))
      have e97 := n91.ne rfl (n90.ne rfl (n89.ne rfl ((p76.old 10 rfl).trans (n68.ne rfl (n67.ne rfl (n66.ne rfl s10I54))))))
      have e98 := n91.ne rfl (n90.ne rfl (n89.ne rfl ((p76.old 11 rfl).trans (n68.ne rfl (n67.ne rfl (n66.ne rfl s11I54))))))
      have e99 := n91.ne rfl (n90.ne rfl (n89.ne rfl ((p76.old 12 rfl).trans (n68.ne rfl (n67.ne rfl (n66.ne rfl s12I54))))))
      exact th_n (hKI54 _ _ _ (by omega) ⟨c + 1, withX X i c, rfl, n91.ok, G85, e92, e93, e94, e95, e96, n91.at_, e97, e98, e99, B86, B87, (by rw [← withX_off X i c]; exact B88), by omega, hXI54.with i c, all_step (by omega) (by omega) hDI54⟩)
    · refine wp_cond_false ((n68.at_).trans (congrArg Value.bool (decide_eq_false c69))) ?_
      refine wp_exit ?_
      refine th_x ?_
      refine th_x ?_
      refine ib_x ?_
      refine ib_n ?_
      refine th_n (hK44 _ _ ?_)
      refine wp_region_lit ?_
      have e100 := n68.ne rfl (n67.ne rfl (n66.ne rfl s12I54))
      refine sv n68.ok rfl (wn _ rfl) rfl (o_add (r := ((i + 1 : Nat) : Int)) e100 ev_const (by omega) (by omega)) (fun an101 n101 => ?_)
      refine sv n101.ok rfl (wn _ rfl) rfl (o_mv n101.at_) (fun an102 n102 => ?_)
      refine wpList_nil ?_
      have e103 := n102.ne rfl (n101.ne rfl (n68.ne rfl (n67.ne rfl (n66.ne rfl s1I54))))
      have e104 := n102.ne rfl (n101.ne rfl (n68.ne rfl (n67.ne rfl (n66.ne rfl s2I54))))
      have e105 := n102.ne rfl (n101.ne rfl (n68.ne rfl (n67.ne rfl (n66.ne rfl s3I54))))
      have e106 := n102.ne rfl (n101.ne rfl (n68.ne rfl (n67.ne rfl (n66.ne rfl s10I54))))
      have e107 := n102.ne rfl (n101.ne rfl (n68.ne rfl (n67.ne rfl (n66.ne rfl s11I54))))
      exact th_n (hKI33 _ _ _ (by omega) ⟨i + 1, X, rfl, n102.ok, GI54, e103, e104, e105, e106, e107, n102.at_, kb3I54, kb9I54, kb18I54, by omega, hXI54, all_next hcv (by omega) hDI54⟩)
  · refine wp_cond_false ((n41.at_).trans (congrArg Value.bool (decide_eq_false c43))) ?_
    refine wp_exit ?_
    refine th_x ?_
    refine th_x ?_
    refine ib_x ?_
    refine th_n (hK27 _ _ ?_)
    refine wp_seq_k (fun K108 hK108 => ?_)
    refine wp_seq_k (fun K109 hK109 => ?_)
    refine wp_region_lit ?_
    refine sv n41.ok rfl (wn _ rfl) rfl (o_fa (z := 1) (n41.ne rfl s1I33) Try.underlying30 rfl (by kernel_rfl) rfl rfl) (fun an110 n110 => ?_)
    refine sv n110.ok rfl (wn _ rfl) rfl (o_ld n110.at_ (Try.isAgg28 _) (kb3I33.cell _ rfl)) (fun an111 n111 => ?_)
    refine sv n111.ok rfl (wn _ rfl) rfl (o_len n111.at_ Try.underlying28) (fun an112 n112 => ?_)
    refine sv n112.ok rfl (wn _ rfl) rfl (o_mv ev_const) (fun an113 n113 => ?_)
    refine wpList_nil ?_
    refine th_n (hK109 _ _ ?_)
    refine wp_block ?_
    have e115 := n113.ne rfl (n112.ne rfl (n111.ne rfl (n110.ne rfl (n41.ne rfl s2I33))))
    have e116 := n113.ne rfl (n112.ne rfl (n111.ne rfl (n110.ne rfl (n41.ne rfl s3I33))))
    refine lp (fun (nL : Nat) (aL : Act) (wL : World) => ∃ k : Nat, ∃ X : Nat → Nat, nL = m.length - k ∧ Ok 47 aL ∧ Gr w wL ∧ (aL.eval (.tmp 2) = .pointer (some ⟨b9, 0, none⟩)) ∧ (aL.eval (.tmp 3) = .pointer (some ⟨b18, 0, none⟩)) ∧ (aL.eval (.tmp 36) = .slice ma m.length mc) ∧ (aL.eval (.tmp 37) = .int .i64 ((m.length : Nat) : Int)) ∧ (aL.eval (.tmp 38) = .int .i64 (k : Int)) ∧ (Bk wL b9 (wArr (fun _ => 0)) 87) ∧ (Bk wL b18 (wArr X) 87) ∧ (k ≤ m.length) ∧ (OkX X) ∧ (∀ s q, s < 5 → q < 1024 → dsX X s q = memB v (m.take k) s q)) _ ⟨0, X, rfl, n113.ok, GI33, e115, e116, (n113.ne rfl (n112.ne rfl n111.at_)), (n113.ne rfl n112.at_), n113.at_, kb9I33, kb18I33, by omega, hXI33, all_mid (by omega) hDI33 m⟩ ?_
    rintro m117 aI114 w119 ⟨k, X, hmI114, okI114, GI114, s2I114, s3I114, s36I114, s37I114, s38I114, kb9I114, kb18I114, hkI114, hXI114, hDI114⟩ KI114 hKI114
    refine wp_seq_k (fun K120 hK120 => ?_)
    refine wp_region_lit ?_
    refine sv okI114 rfl (wn _ rfl) rfl (o_ltI s38I114 s37I114) (fun an121 n121 => ?_)
    refine wpList_nil ?_
    refine th_n (hK120 _ _ ?_)
    refine wp_seq_k (fun K122 hK122 => ?_)
    by_cases c123 : (k : Int) < ((m.length : Nat) : Int)
    · refine wp_cond_true ((n121.at_).trans (congrArg Value.bool (decide_eq_true c123))) ?_
      refine wp_skip ?_
      refine th_n (hK122 _ _ ?_)
      refine wp_seq_k (fun K124 hK124 => ?_)
      refine wp_block ?_
      refine wp_seq_k (fun K125 hK125 => ?_)
      refine wp_region_lit ?_
      have h126l : k < List.length m := by omega
      obtain ⟨bh126, fh126, h126a, h126b, h126c⟩ := hm (ne_nil_of_lt h126l)
      obtain ⟨⟨xh126, yh126⟩, h126x⟩ : ∃ x, m[k]? = some x := ⟨_, List.getElem?_eq_getElem h126l⟩
      have hdh126 := ok.dots _ (List.mem_of_getElem? h126x)
      simp only at hdh126
      refine sv n121.ok rfl (wn _ rfl) rfl (o_iaV (i := k) (s := 2) h126a (n121.ne rfl s36I114) (n121.ne rfl s38I114) Try.underlying28 (by kernel_rfl) h126l) (fun an127 n127 => ?_)
      refine sv n127.ok rfl (wn _ rfl) rfl (o_ldA (k := fh126 + k * 2) n127.at_ (cells_to (fun j => Below.cell GI114 h126b) (two_cells (h126c _ _ h126x).1 (h126c _ _ h126x).2)) Try.underlying24 rfl (by kernel_rfl)) (fun an128 n128 => ?_)
      refine sal (cs := #[.int .i64 0, .int .i64 0]) n128.ok rfl (wn _ rfl) rfl (o_al (z := .agg #[.int .i64 0, .int .i64 0]) (by kernel_rfl)) (fun an129 w131 b130 W132 n129 => ?_)
      have l133 : b9 < b130 := by rw [W132.eq]; exact kb9I114.lt
      have l134 : b18 < b130 := by rw [W132.eq]; exact kb18I114.lt
      have l135 : w.heap.size ≤ b130 := by rw [W132.eq]; exact GI114.size
      have G136 := GI114.trans W132.gr
      have B137 := kb9I114.gr W132.gr
      have B138 := kb18I114.gr W132.gr
      refine ssR rfl (wn _ rfl) (o_stR n129.at_ (n129.ne rfl n128.at_) W132.bk (by kernel_rfl) rfl (by simp [Value.oneCell'])) W132.bk (fun w139 u140 u140b => ?_)
      have G141 : Gr w w139 := Below.upd G136 l135 u140
      have B142 := B137.upd u140 (Nat.ne_of_lt l133)
      have B143 := B138.upd u140 (Nat.ne_of_lt l134)
      refine wpList_nil ?_
      refine th_n (hK125 _ _ ?_)
      refine wp_region_lit ?_
      have e144 := n129.ne rfl (n128.ne rfl (n127.ne rfl (n121.ne rfl s3I114)))
      refine sv n129.ok rfl (wn _ rfl) rfl (o_ldR e144 B143 Try.underlying87 rfl (dots_sz X)) (fun an145 n145 => ?_)
      refine sv n145.ok rfl (wn _ rfl) rfl (o_ldR (n145.ne rfl n129.at_) u140b Try.underlying24 rfl (by kernel_rfl)) (fun an146 n146 => ?_)
      refine sc n146.ok rfl (wn _ rfl) rfl (o_f2 Try.func63 rfl rfl rfl (n146.ne rfl n145.at_) n146.at_) (rwith_any X xh126 yh126 w139 hXI114 (by omega) (by omega)) ?_
      rintro _ w148 ⟨rfl, g149⟩
      refine ⟨_, rfl, fun an147 n147 => ?_⟩
      have G150 := G141.trans g149
      have B151 := B142.gr g149
      have B152 := B143.gr g149
      have B153 := u140b.gr g149
      have e154 := n147.ne rfl (n146.ne rfl (n145.ne rfl e144))
      refine ssR rfl (wn _ rfl) (o_stR e154 n147.at_ B152 (dots_sz (withX X xh126 yh126)) (by rw [wArr_size, wArr_size]) (wArr_one (withX X xh126 yh126))) B152 (fun w155 u156 u156b => ?_)
      have G157 : Gr w w155 := Below.upd G150 l23 u156
      have B158 := B151.upd u156 (Nat.ne_of_lt l22)
      have B159 := B153.upd u156 (Nat.ne_of_gt l134)
      refine wpList_nil ?_
      refine ib_n ?_
      refine th_n (hK124 _ _ ?_)
      refine wp_region_lit ?_
      have e160 := n147.ne rfl (n146.ne rfl (n145.ne rfl (n129.ne rfl (n128.ne rfl (n127.ne rfl (n121.ne rfl s38I114))))))
      refine sv n147.ok rfl (wn _ rfl) rfl (o_add (r := ((k + 1 : Nat) : Int)) e160 ev_const (by omega) (by omega)) (fun an161 n161 => ?_)
      refine sv n161.ok rfl (wn _ rfl) rfl (o_mv n161.at_) (fun an162 n162 => ?_)
      refine wpList_nil ?_
      have e163 := n162.ne rfl (n161.ne rfl (n147.ne rfl (n146.ne rfl (n145.ne rfl (n129.ne rfl (n128.ne rfl (n127.ne rfl (n121.ne rfl s2I114))))))))
      have e164 := n162.ne rfl (n161.ne rfl (n147.ne rfl (n146.ne rfl (n145.ne rfl (n129.ne rfl (n128.ne rfl (n127.ne rfl (n121.ne rfl s36I114))))))))
      have e165 := n162.ne rfl (n161.ne rfl (n147.ne rfl (n146.ne rfl (n145.ne rfl (n129.ne rfl (n128.ne rfl (n127.ne rfl (n121.ne rfl s37I114))))))))
      exact th_n (hKI114 _ _ _ (by omega) ⟨k + 1, withX X xh126 yh126, rfl, n162.ok, G157, e163, (n162.ne rfl (n161.ne rfl e154)), e164, e165, n162.at_, B158, u156b, by omega, hXI114.with _ _, all_more h126x (by omega) hDI114⟩)
    · refine wp_cond_false ((n121.at_).trans (congrArg Value.bool (decide_eq_false c123))) ?_
      refine wp_exit ?_
      refine th_x ?_
      refine th_x ?_
      refine ib_x ?_
      refine th_n (hK108 _ _ ?_)
      refine wp_seq_k (fun K166 hK166 => ?_)
      refine wp_region_lit ?_
      refine sv n121.ok rfl (wn _ rfl) rfl (o_ldR (n121.ne rfl s3I114) kb18I114 Try.underlying87 rfl (dots_sz X)) (fun an167 n167 => ?_)
      refine ssR rfl (wn _ rfl) (o_stR (n167.ne rfl (n121.ne rfl s2I114)) n167.at_ kb9I114 (dots_sz X) (by rw [wArr_size, wArr_size]) (wArr_one X)) kb9I114 (fun w168 u169 u169b => ?_)
      have G170 : Gr w w168 := Below.upd GI114 l13 u169
      have B171 := kb18I114.upd u169 (Nat.ne_of_gt l22)
      refine wpList_nil ?_
      refine th_n (hK166 _ _ ?_)
      refine wp_ret ?_
      exact ret1 n167.ok rfl (⟨_, _, (n167.ne rfl (n121.ne rfl s2I114)), ld_row u169b Try.underlying87 rfl (dots_sz X)⟩) ⟨X, rfl, hXI114, fun s q h1 h2 => by rw [hDI114 s q h1 h2, List.take_of_length_le (by omega)], G170⟩
theorem rall_any (k : Value) (v : List Nat) (m : List (Nat × Nat)) (w : World) (hk : KnR w k (ints v) (pairs m)) (ok : OkV v m) (hl : m.length ≤ 60) :
    Calls Try.prog 56 #[k] w fun e w' => ∃ X, e = .returned (.agg (wArr X)) ∧ OkX X ∧ (∀ s q, s < 5 → q < 1024 → dsX X s q = memB v m s q) ∧ Gr w w' := by
  obtain ⟨va, vc, ma, mc, rfl, hv, hm⟩ := knr_form hk
  rw [ints_len, pairs_len]
  exact rall_k va ma vc mc v m ok hl w hv.nat hm.nat
end Go.Proofs.Ytoencnbpjjkjnaa

/- The document's sets of dots: Size, Formed, Know. -/
set_option linter.unusedVariables false
set_option linter.unusedSimpArgs false
namespace Rm
open Go Go.RowKit Gx
/-- five integers -/
def a5 (f : Nat → Int) : Array Value := #[.int .i64 (f 0), .int .i64 (f 1), .int .i64 (f 2), .int .i64 (f 3), .int .i64 (f 4)]
def u5 (f : Nat → Int) (s : Nat) (z : Int) : Nat → Int := fun t => if t = s then z else f t
theorem badM_dot {v : List Nat} {M : List (Int × Int)} {k : Nat} {d : Int × Int} (h : M[k]? = some d) (hb : dotB d = false) : badM v M k = 1 := by
  unfold badM; rw [h]; simp only; rw [if_pos hb]
end Rm
namespace Gx
open Go Go.RowKit Rm
section
variable {P : Program} {ev : Operand → Value} {d : Option Tmp} {ty : TypeId} {p : String} {af : Array Edge} {g : Option (Nat × Bool)} {w : World}
theorem o_remU {t t' : TypeId} {x y : Operand} {i j r : Nat} (hx : ev x = .int .u64 (i : Int)) (hy : ev y = .int .u64 (j : Int)) (hj : 0 < j) (hr : i % j = r) : (execOp ev (Oper.mk d (.binOp .rem t x y t') ty p af g)).run P w = .ok (.value (.int .u64 (r : Int))) w := by
  subst hr
  have h0 : ¬ (j : Int) = 0 := by omega
  have h1 : (i : Int).tmod (j : Int) = ((i % j : Nat) : Int) := by rw [Int.tmod_eq_emod_of_nonneg (by omega)]; rfl
  unfold execOp
  simp only [hx, hy, eqGuard, binOp, Op.intDiv, if_neg h0, h1, Sem.run_bind]
  rfl
theorem o_cv {s t : TypeId} {x : Operand} {k k' : IntKind} {i r : Int} (hx : ev x = .int k i) (hs : P.underlying s = some (.int k)) (ht : P.underlying t = some (.int k')) (hr : k'.wrap i = r) : (execOp ev (Oper.mk d (.convert s t x) ty p af g)).run P w = .ok (.value (.int k' r)) w := by
  subst hr
  simp [execOp, convert, hx, run_underlying hs, run_underlying ht, Conv.intToInt, go_sem]
end
end Gx
namespace Go.Proofs.Ytoencnbpjjkjnaa
open Go.RowKit Rm Gx
end Go.Proofs.Ytoencnbpjjkjnaa

/- Answers of the sets of dots in one form. -/
set_option linter.unusedVariables false
set_option linter.unusedSimpArgs false
namespace Rm
/-- what build answers: the error, the vector, the dots behind it -/
def frE (D : DS) : Int := if (formM D).length ≤ 60 then 0 else 2
def frV (D : DS) : List Nat := if (formM D).length ≤ 60 then formV D else []
def frM (D : DS) : List (Nat × Nat) := if (formM D).length ≤ 60 then formM D else []
end Rm
namespace Go.Proofs.Ytoencnbpjjkjnaa
open Go.RowKit Rm Gx
theorem frmK.one {base : Nat} {w : World} {e : Ending} {D : DS} (h : frmK base w e D) : ∃ k, e = .returned (.tuple #[k, .int .i64 (frE D)]) ∧ KnO base w k (frV D) (frM D) := by
  obtain ⟨k, r, rfl, ⟨h1, rfl, h2⟩ | ⟨h1, rfl, h2⟩⟩ := h
  · exact ⟨k, by unfold frE; rw [if_pos h1], by unfold frV frM; rw [if_pos h1, if_pos h1]; exact h2⟩
  · have h1' : ¬ (formM D).length ≤ 60 := by omega
    exact ⟨k, by unfold frE; rw [if_neg h1'], by unfold frV frM; rw [if_neg h1', if_neg h1']; exact h2⟩
theorem KnO.form {base : Nat} {w : World} {k : Value} {v : List Nat} {m : List (Nat × Nat)} (h : KnO base w k v m) : ∃ va vc ma mc, k = .agg #[.slice va (ints v).length vc, .slice ma (pairs m).length mc] := by
  obtain ⟨vv, mv, rfl, h1, h2⟩ := h
  obtain ⟨a, c, rfl, -⟩ := ow_form h1
  obtain ⟨a', c', rfl, -⟩ := ow_form h2
  exact ⟨a, c, a', c', by rw [ints_len, pairs_len]⟩
theorem knR_nil (w : World) : KnR w (.agg #[.slice none 0 0, .slice none 0 0]) [] [] := ⟨_, _, rfl, R1.nil w, Rd2.nil w, ⟨rfl, by simp [flat], .inl ⟨rfl, rfl⟩⟩⟩
theorem sameK_p (k k' : Value) (V V' : List Int) (M M' : List (Int × Int)) (w : World) (hk : KnR w k V M) (hk' : KnR w k' V' M') (hl : V.length ≤ 100000) (hl' : M.length ≤ 100000) :
    Calls Try.prog 18 #[k, k'] w fun e w' => e = .returned (.bool (decide (V = V' ∧ M = M'))) ∧ Gr w w' :=
  (sameK_any k k' V V' M M' w hk hk' hl hl').mono fun e w' h => ⟨by rw [h.1, Bool.decide_and], h.2⟩
end Go.Proofs.Ytoencnbpjjkjnaa

/- The order of versions; what a version supersedes; shelf.Check. -/
set_option linter.unusedVariables false
set_option linter.unusedSimpArgs false
namespace Rm
open Go Go.RowKit Gx
def cmpP (a b c d : Int) : Int := orC (Lib.compareInt a c) (Lib.compareInt b d)
theorem chkRow_at {K : List VerI} {p : Option VerD} {i : Nat} {x : VerI} (h : K[i]? = some x) : chkRow p ((K.map VerI.d).drop i) = if chkOne x.d = 0 then (if (p.any fun y => decide (0 ≤ cmpV y x.d)) = true then 3 else chkRow (some x.d) ((K.map VerI.d).drop (i + 1))) else chkOne x.d := by
  obtain ⟨hi, e⟩ := List.getElem?_eq_some_iff.1 h
  rw [List.drop_eq_getElem_cons (by simpa using hi), List.getElem_map, e]
  rfl
/-- the version ahead of place i -/
def prevV (K : List VerI) (i : Nat) : Option VerD := if i = 0 then none else (K[i - 1]?).map VerI.d
theorem prevV_succ {K : List VerI} {i : Nat} {x : VerI} (h : K[i]? = some x) : prevV K (i + 1) = some x.d := by
  unfold prevV
  rw [if_neg (by omega), Nat.add_sub_cancel, h]
  rfl
theorem chkRow_all {K : List VerI} : ∀ {p : Option VerD}, chkRow p (K.map VerI.d) = 0 → ∀ x ∈ K, okVr x := by
  induction K with
  | nil => intro p _ x hx; cases hx
  | cons a K ih =>
    intro p h x hx
    rw [List.map_cons] at h
    unfold chkRow at h
    by_cases h1 : chkOne a.d = 0
    · rw [if_pos h1] at h
      split at h
      · cases h
      · rcases List.mem_cons.1 hx with rfl | hx
        · exact h1
        · exact ih h x hx
    · rw [if_neg h1] at h
      exact absurd h h1
end Rm
namespace Go.Proofs.Ytoencnbpjjkjnaa
open Go.RowKit Rm Gx
set_option maxHeartbeats 8000000 in
set_option maxRecDepth 100000 in
theorem nanS (l : List UInt8) (w : World) :
    Calls Try.prog 101 #[.string (bs l)] w fun e w' => e = .returned (.bool false) ∧ Gr w w' := by
  refine enter (N := 6) Try.func101 rfl rfl rfl (fun a0 ok0 h0 => ?_)
  have e0_0 : a0.eval (.tmp 0) = .string (bs l) := h0 0 _ rfl
  clear h0
  have G0 := Gr.refl w
  refine wp_seq_k (fun K1 hK1 => ?_)
  refine wp_region_lit ?_
  refine sv ok0 rfl (wn _ rfl) rfl (o_as ev_const) (fun an2 n2 => ?_)
  refine wpList_nil ?_
  refine th_n (hK1 _ _ ?_)
  refine wp_seq_k (fun K3 hK3 => ?_)
  refine wp_region_lit ?_
  refine sv n2.ok rfl (wn _ rfl) rfl (o_mv (n2.ne rfl e0_0)) (fun an4 n4 => ?_)
  refine sv n4.ok rfl (wn _ rfl) rfl (o_mv (n4.ne rfl (n2.ne rfl e0_0))) (fun an5 n5 => ?_)
  refine sv n5.ok rfl (wn _ rfl) rfl (o_neSs (n5.ne rfl n4.at_) n5.at_) (fun an6 n6 => ?_)
  refine sv n6.ok rfl (wn _ rfl) rfl (o_as n6.at_) (fun an7 n7 => ?_)
  refine wpList_nil ?_
  refine th_n (hK3 _ _ ?_)
  refine wp_ret ?_
  exact ret1 n7.ok rfl (n7.at_) ⟨rfl, G0⟩
set_option maxHeartbeats 8000000 in
set_option maxRecDepth 100000 in
theorem cmpStr (l m : List UInt8) (w : World) :
    Calls Try.prog 89 #[.string (bs l), .string (bs m)] w fun e w' => e = .returned (.int .i64 (cmpS l m)) ∧ Gr w w' := by
  refine enter (N := 20) Try.func89 rfl rfl rfl (fun a0 ok0 h0 => ?_)
  have e0_0 : a0.eval (.tmp 0) = .string (bs l) := h0 0 _ rfl
  have e0_1 : a0.eval (.tmp 1) = .string (bs m) := h0 1 _ rfl
  clear h0
  have G0 := Gr.refl w
  refine wp_seq_k (fun K1 hK1 => ?_)
  refine wp_region_lit ?_
  refine sv ok0 rfl (wn _ rfl) rfl (o_as ev_const) (fun an2 n2 => ?_)
  refine wpList_nil ?_
  refine th_n (hK1 _ _ ?_)
  refine wp_seq_k (fun K3 hK3 => ?_)
  refine wp_region_lit ?_
  refine sv n2.ok rfl (wn _ rfl) rfl (o_mv (n2.ne rfl e0_0)) (fun an4 n4 => ?_)
  refine sc n4.ok rfl (wn _ rfl) rfl (o_f1 Try.func101 rfl rfl rfl n4.at_) (nanS l w) ?_
  rintro _ w6 ⟨rfl, g7⟩
  refine ⟨_, rfl, fun an5 n5 => ?_⟩
  have G8 := G0.trans g7
  refine sv n5.ok rfl (wn _ rfl) rfl (o_as n5.at_) (fun an9 n9 => ?_)
  refine wpList_nil ?_
  refine th_n (hK3 _ _ ?_)
  refine wp_seq_k (fun K10 hK10 => ?_)
  refine wp_region_lit ?_
  have e11 := n9.ne rfl (n5.ne rfl (n4.ne rfl (n2.ne rfl e0_1)))
  refine sv n9.ok rfl (wn _ rfl) rfl (o_mv e11) (fun an12 n12 => ?_)
  refine sc n12.ok rfl (wn _ rfl) rfl (o_f1 Try.func101 rfl rfl rfl n12.at_) (nanS m w6) ?_
  rintro _ w14 ⟨rfl, g15⟩
  refine ⟨_, rfl, fun an13 n13 => ?_⟩
  have G16 := G8.trans g15
  refine sv n13.ok rfl (wn _ rfl) rfl (o_as n13.at_) (fun an17 n17 => ?_)
  refine wpList_nil ?_
  refine th_n (hK10 _ _ ?_)
  refine wp_seq_k (fun K18 hK18 => ?_)
  refine wp_seq_k (fun K19 hK19 => ?_)
  refine wp_region_lit ?_
  have e20 := n17.ne rfl (n13.ne rfl (n12.ne rfl n9.at_))
  refine sv n17.ok rfl (wn _ rfl) rfl (o_mv e20) (fun an21 n21 => ?_)
  refine wpList_nil ?_
  refine th_n (hK19 _ _ ?_)
  refine wp_cond_false (n21.at_) ?_
  refine wp_skip ?_
  refine th_n (hK18 _ _ ?_)
  refine wp_seq_k (fun K22 hK22 => ?_)
  refine wp_seq_k (fun K23 hK23 => ?_)
  refine wp_region_lit ?_
  refine sv n21.ok rfl (wn _ rfl) rfl (o_mv (n21.ne rfl n17.at_)) (fun an24 n24 => ?_)
  refine wpList_nil ?_
  refine th_n (hK23 _ _ ?_)
  refine wp_cond_false (n24.at_) ?_
  refine wp_skip ?_
  refine th_n (hK22 _ _ ?_)
  refine wp_seq_k (fun K25 hK25 => ?_)
  refine wp_seq_k (fun K26 hK26 => ?_)
  refine wp_region_lit ?_
  have e27 := n24.ne rfl (n21.ne rfl (n17.ne rfl (n13.ne rfl (n12.ne rfl (n9.ne rfl (n5.ne rfl (n4.ne rfl (n2.ne rfl e0_0))))))))
  refine sv n24.ok rfl (wn _ rfl) rfl (o_mv e27) (fun an28 n28 => ?_)
  have e29 := n28.ne rfl (n24.ne rfl (n21.ne rfl (n17.ne rfl (n13.ne rfl (n12.ne rfl e11)))))
  refine sv n28.ok rfl (wn _ rfl) rfl (o_mv e29) (fun an30 n30 => ?_)
  refine sv n30.ok rfl (wn _ rfl) rfl (o_ltS (n30.ne rfl n28.at_) n30.at_) (fun an31 n31 => ?_)
  refine wpList_nil ?_
  refine th_n (hK26 _ _ ?_)
  cases c32 : (Op.bytesLess l m)
  · refine wp_cond_false ((n31.at_).trans (congrArg Value.bool (c32))) ?_
    refine wp_skip ?_
    refine th_n (hK25 _ _ ?_)
    refine wp_seq_k (fun K33 hK33 => ?_)
    refine wp_seq_k (fun K34 hK34 => ?_)
    refine wp_region_lit ?_
    have e35 := n31.ne rfl (n30.ne rfl (n28.ne rfl e27))
    refine sv n31.ok rfl (wn _ rfl) rfl (o_mv e35) (fun an36 n36 => ?_)
    have e37 := n36.ne rfl (n31.ne rfl (n30.ne rfl e29))
    refine sv n36.ok rfl (wn _ rfl) rfl (o_mv e37) (fun an38 n38 => ?_)
    refine sv n38.ok rfl (wn _ rfl) rfl (o_gtS (n38.ne rfl n36.at_) n38.at_) (fun an39 n39 => ?_)
    refine wpList_nil ?_
    refine th_n (hK34 _ _ ?_)
    cases c40 : (!(Op.bytesLess l m || decide (l = m)))
    · refine wp_cond_false ((n39.at_).trans (congrArg Value.bool (c40))) ?_
      refine wp_skip ?_
      refine th_n (hK33 _ _ ?_)
      refine wp_seq_k (fun K41 hK41 => ?_)
      refine wp_region_lit ?_
      refine sv n39.ok rfl (wn _ rfl) rfl (o_as ev_const) (fun an42 n42 => ?_)
      refine wpList_nil ?_
      refine th_n (hK41 _ _ ?_)
      refine wp_ret ?_
      exact ret1 n42.ok rfl (n42.at_) ⟨congrArg (fun n => Ending.returned (Value.int .i64 n)) (Eq.symm (by unfold cmpS; rw [if_neg (by rw [c32]; simp), if_neg (by rw [c40]; simp)])), G16⟩
    · refine wp_cond_true ((n39.at_).trans (congrArg Value.bool (c40))) ?_
      refine wp_seq_k (fun K43 hK43 => ?_)
      refine wp_region_lit ?_
      refine sv n39.ok rfl (wn _ rfl) rfl (o_as ev_const) (fun an44 n44 => ?_)
      refine wpList_nil ?_
      refine th_n (hK43 _ _ ?_)
      refine wp_ret ?_
      refine th_r ?_
      exact ret1 n44.ok rfl (n44.at_) ⟨congrArg (fun n => Ending.returned (Value.int .i64 n)) (Eq.symm (by unfold cmpS; rw [if_neg (by rw [c32]; simp), if_pos c40])), G16⟩
  · refine wp_cond_true ((n31.at_).trans (congrArg Value.bool (c32))) ?_
    refine wp_seq_k (fun K45 hK45 => ?_)
    refine wp_region_lit ?_
    refine sv n31.ok rfl (wn _ rfl) rfl (o_as ev_const) (fun an46 n46 => ?_)
    refine wpList_nil ?_
    refine th_n (hK45 _ _ ?_)
    refine wp_ret ?_
    refine th_r ?_
    exact ret1 n46.ok rfl (n46.at_) ⟨congrArg (fun n => Ending.returned (Value.int .i64 n)) (Eq.symm (by unfold cmpS; rw [if_pos c32])), G16⟩
set_option maxHeartbeats 8000000 in
set_option maxRecDepth 100000 in
theorem cmpDots_any (a b c d : Int) (w : World) :
    Calls Try.prog 82 #[.agg #[.int .i64 (a), .int .i64 (b)], .agg #[.int .i64 (c), .int .i64 (d)]] w fun e w' => e = .returned (.int .i64 (cmpP a b c d)) ∧ Gr w w' := by
  refine enter (N := 17) Try.func82 rfl rfl rfl (fun a0 ok0 h0 => ?_)
  have e0_0 : a0.eval (.tmp 0) = .agg #[.int .i64 (a), .int .i64 (b)] := h0 0 _ rfl
  have e0_1 : a0.eval (.tmp 1) = .agg #[.int .i64 (c), .int .i64 (d)] := h0 1 _ rfl
  clear h0
  have G0 := Gr.refl w
  refine wp_seq_k (fun K1 hK1 => ?_)
  refine wp_region_lit ?_
  refine sal (cs := #[.int .i64 (a), .int .i64 (b)]) ok0 rfl (wn _ rfl) rfl (o_box e0_0) (fun an2 w4 b3 W5 n2 => ?_)
  have l6 : w.heap.size ≤ b3 := by rw [W5.eq]; exact G0.size
  have G7 := G0.trans W5.gr
  refine sal (cs := #[.int .i64 (c), .int .i64 (d)]) n2.ok rfl (wn _ rfl) rfl (o_box (n2.ne rfl e0_1)) (fun an8 w10 b9 W11 n8 => ?_)
  have l12 : b3 < b9 := by rw [W11.eq]; exact W5.bk.lt
  have l13 : w.heap.size ≤ b9 := by rw [W11.eq]; exact G7.size
  have G14 := G7.trans W11.gr
  have B15 := W5.bk.gr W11.gr
  refine sv n8.ok rfl (wn _ rfl) rfl (o_as ev_const) (fun an16 n16 => ?_)
  refine wpList_nil ?_
  refine th_n (hK1 _ _ ?_)
  refine wp_seq_k (fun K17 hK17 => ?_)
  refine reg_start (N := 17) (m := 13) (by kernel_rfl) (fun R180 => ?_)
  have R181 := R180.snoc (n' := 1) rfl (fun vJ _ => vJ = .pointer (some ⟨b3, 0, none⟩)) rfl (fun _ _ _ _ h => h) (fun aS wS pS => by
      exact Does.val (wn _ rfl) (o_fa (z := 1) ((pS.old 2 rfl).trans (n16.ne rfl (n8.ne rfl n2.at_))) Try.underlying24 rfl (by kernel_rfl) rfl rfl) (Gr.refl _) rfl rfl)
  have R182 := R181.snoc (n' := 2) rfl (fun vJ _ => vJ = .int .i64 (a)) rfl (fun _ _ _ _ h => h) (fun aS wS pS => by
      have eR18_0 : aS.eval (.tmp 5) = .pointer (some ⟨b3, 0, none⟩) := pS.pre 0 rfl
      exact Does.val (wn _ rfl) (o_ld (eR18_0) (Try.isAgg3 _) ((Bk.gr B15 (gr_drew pS.gr)).cell _ rfl)) (Gr.refl _) rfl rfl)
  have R183 := R182.snoc (n' := 3) rfl (fun vJ _ => vJ = .pointer (some ⟨b9, 0, none⟩)) rfl (fun _ _ _ _ h => h) (fun aS wS pS => by
      exact Does.val (wn _ rfl) (o_fa (z := 1) ((pS.old 3 rfl).trans (n16.ne rfl n8.at_)) Try.underlying24 rfl (by kernel_rfl) rfl rfl) (Gr.refl _) rfl rfl)
  have R184 := R183.snoc (n' := 4) rfl (fun vJ _ => vJ = .int .i64 (c)) rfl (fun _ _ _ _ h => h) (fun aS wS pS => by
      have eR18_2 : aS.eval (.tmp 7) = .pointer (some ⟨b9, 0, none⟩) := pS.pre 2 rfl
      exact Does.val (wn _ rfl) (o_ld (eR18_2) (Try.isAgg3 _) ((Bk.gr W11.bk (gr_drew pS.gr)).cell _ rfl)) (Gr.refl _) rfl rfl)
  have R185 := R184.snoc (n' := 5) rfl (fun vJ _ => vJ = .int .i64 (Lib.compareInt a c)) rfl (fun _ _ _ _ h => h) (fun aS wS pS => by
      have eR18_1 : aS.eval (.tmp 6) = .int .i64 (a) := pS.pre 1 rfl
      have eR18_3 : aS.eval (.tmp 8) = .int .i64 (c) := pS.pre 3 rfl
      exact Does.call (wn _ rfl) (o_f2 Try.func99 rfl rfl rfl (eR18_1) (eR18_3)) (cmpG a c wS) (by rintro _ w2 ⟨rfl, g⟩; exact ⟨_, rfl, g, rfl⟩) rfl)
  have R186 := R185.snoc (n' := 6) rfl (fun vJ _ => vJ = .pointer (some ⟨b3, 1, none⟩)) rfl (fun _ _ _ _ h => h) (fun aS wS pS => by
      exact Does.val (wn _ rfl) (o_fa (z := 1) ((pS.old 2 rfl).trans (n16.ne rfl (n8.ne rfl n2.at_))) Try.underlying24 rfl (by kernel_rfl) rfl rfl) (Gr.refl _) rfl rfl)
  have R187 := R186.snoc (n' := 7) rfl (fun vJ _ => vJ = .int .i64 (b)) rfl (fun _ _ _ _ h => h) (fun aS wS pS => by
      have eR18_5 : aS.eval (.tmp 10) = .pointer (some ⟨b3, 1, none⟩) := pS.pre 5 rfl
      exact Does.val (wn _ rfl) (o_ld (eR18_5) (Try.isAgg3 _) ((Bk.gr B15 (gr_drew pS.gr)).cell _ rfl)) (Gr.refl _) rfl rfl)
  have R188 := R187.snoc (n' := 8) rfl (fun vJ _ => vJ = .pointer (some ⟨b9, 1, none⟩)) rfl (fun _ _ _ _ h => h) (fun aS wS pS => by
      exact Does.val (wn _ rfl) (o_fa (z := 1) ((pS.old 3 rfl).trans (n16.ne rfl n8.at_)) Try.underlying24 rfl (by kernel_rfl) rfl rfl) (Gr.refl _) rfl rfl)
  have R189 := R188.snoc (n' := 9) rfl (fun vJ _ => vJ = .int .i64 (d)) rfl (fun _ _ _ _ h => h) (fun aS wS pS => by
      have eR18_7 : aS.eval (.tmp 12) = .pointer (some ⟨b9, 1, none⟩) := pS.pre 7 rfl
      exact Does.val (wn _ rfl) (o_ld (eR18_7) (Try.isAgg3 _) ((Bk.gr W11.bk (gr_drew pS.gr)).cell _ rfl)) (Gr.refl _) rfl rfl)
  have R1810 := R189.snoc (n' := 10) rfl (fun vJ _ => vJ = .int .i64 (Lib.compareInt b d)) rfl (fun _ _ _ _ h => h) (fun aS wS pS => by
      have eR18_6 : aS.eval (.tmp 11) = .int .i64 (b) := pS.pre 6 rfl
      have eR18_8 : aS.eval (.tmp 13) = .int .i64 (d) := pS.pre 8 rfl
      exact Does.call (wn _ rfl) (o_f2 Try.func99 rfl rfl rfl (eR18_6) (eR18_8)) (cmpG b d wS) (by rintro _ w2 ⟨rfl, g⟩; exact ⟨_, rfl, g, rfl⟩) rfl)
  have R1811 := R1810.snoc (n' := 11) rfl (fun vJ wJ => ∃ b20 : Nat, vJ = .slice (some ⟨b20, 0, none⟩) 2 2 ∧ w10.heap.size ≤ b20 ∧ Bk wJ b20 #[.int .i64 (Lib.compareInt a c), .int .i64 (Lib.compareInt b d)] 3) rfl (fun _ _ _ g ⟨b, h1, h2, h3⟩ => ⟨b, h1, h2, h3.gr g⟩) (fun aS wS pS => by
      have eR18_4 : aS.eval (.tmp 9) = .int .i64 (Lib.compareInt a c) := pS.pre 4 rfl
      have eR18_9 : aS.eval (.tmp 14) = .int .i64 (Lib.compareInt b d) := pS.pre 9 rfl
      obtain ⟨i19, i19a, i19b, i19c⟩ := info3_of (show (Try.prog.info? 3).map (fun i => (i.zero, i.size)) = some (some (.int .i64 0), 1) by kernel_rfl)
      exact Does.val (wn _ rfl) (o_bs (vs := [(0, .int .i64 (Lib.compareInt a c)), (1, .int .i64 (Lib.compareInt b d))]) (by simp [(eR18_4), (eR18_9), ev_const]) Try.underlying27 i19a i19b (by rw [i19c]; rfl) (by rw [i19c]; rfl) (by rw [i19c]; kernel_rfl)) ((Gr.refl _).alloc _) ⟨_, rfl, pS.gr.size, (New.mk' _ _ _).bk⟩ rfl)
  have R1812 := R1811.snoc (n' := 12) rfl (fun vJ _ => vJ = .int .i64 (orC (Lib.compareInt a c) (Lib.compareInt b d))) rfl (fun _ _ _ _ h => h) (fun aS wS pS => by
      obtain ⟨b20, eR18_10, geb20, bkb20⟩ := pS.pre 10 rfl
      have eR18_10 : aS.eval (.tmp 15) = .slice (some ⟨b20, 0, none⟩) 2 2 := eR18_10
      exact Does.call (wn _ rfl) (o_f1 Try.func88 rfl rfl rfl (eR18_10)) (orG (Lib.compareInt a c) (Lib.compareInt b d) _ _ wS bkb20) (by rintro _ w2 ⟨rfl, g⟩; exact ⟨_, rfl, g, rfl⟩) rfl)
  have R1813 := R1812.snoc (n' := 13) rfl (fun vJ _ => vJ = .int .i64 (orC (Lib.compareInt a c) (Lib.compareInt b d))) rfl (fun _ _ _ _ h => h) (fun aS wS pS => by
      have eR18_11 : aS.eval (.tmp 16) = .int .i64 (orC (Lib.compareInt a c) (Lib.compareInt b d)) := pS.pre 11 rfl
      exact Does.val (wn _ rfl) (o_as (eR18_11)) (Gr.refl _) rfl rfl)
  refine R1813.run (k := 0) (L := #[true, true, true, true, true, true, true, true, true, true, true, true, true]) (by kernel_rfl) (by kernel_rfl) (by kernel_rfl) n16.ok (by kernel_rfl) (by kernel_rfl) (fun ap22 w23 p22 => ?_)
  have g24 := gr_drew p22.gr
  have G25 := G14.trans g24
  have B26 := B15.gr g24
  have B27 := W11.bk.gr g24
  obtain ⟨b20, ep22_10, geb20, bkb20⟩ := p22.js 10 rfl
  have ep22_10 : ap22.eval (.tmp 15) = .slice (some ⟨b20, 0, none⟩) 2 2 := ep22_10
  have l28 : b3 < b20 := Nat.lt_of_lt_of_le B15.lt geb20
  have l29 : b9 < b20 := Nat.lt_of_lt_of_le W11.bk.lt geb20
  have l30 : w.heap.size ≤ b20 := Nat.le_trans G14.size geb20
  refine wpAny_done (by kernel_rfl) ?_ _
  refine th_n (hK17 _ _ ?_)
  refine wp_ret ?_
  have ep22_12 : ap22.eval (.tmp 4) = .int .i64 (orC (Lib.compareInt a c) (Lib.compareInt b d)) := p22.js 12 rfl
  exact ret1 p22.ok rfl (ep22_12) ⟨rfl, G25⟩
set_option maxHeartbeats 8000000 in
set_option maxRecDepth 100000 in
theorem cmpVr_any (x y : VerI) (w : World) :
    Calls Try.prog 58 #[.agg #[.string (bs x.d.id), .int .i64 (x.d.s), .int .i64 (x.d.c), .int .i64 (x.d.t), .int .i64 (x.d.n), .int .i64 (x.d.b), .slice x.va x.d.V.length x.vc, .slice x.ma x.d.M.length x.mc], .agg #[.string (bs y.d.id), .int .i64 (y.d.s), .int .i64 (y.d.c), .int .i64 (y.d.t), .int .i64 (y.d.n), .int .i64 (y.d.b), .slice y.va y.d.V.length y.vc, .slice y.ma y.d.M.length y.mc]] w fun e w' => e = .returned (.int .i64 (cmpV x.d y.d)) ∧ Gr w w' := by
  refine enter (N := 17) Try.func58 rfl rfl rfl (fun a0 ok0 h0 => ?_)
  have e0_0 : a0.eval (.tmp 0) = .agg #[.string (bs x.d.id), .int .i64 (x.d.s), .int .i64 (x.d.c), .int .i64 (x.d.t), .int .i64 (x.d.n), .int .i64 (x.d.b), .slice x.va x.d.V.length x.vc, .slice x.ma x.d.M.length x.mc] := h0 0 _ rfl
  have e0_1 : a0.eval (.tmp 1) = .agg #[.string (bs y.d.id), .int .i64 (y.d.s), .int .i64 (y.d.c), .int .i64 (y.d.t), .int .i64 (y.d.n), .int .i64 (y.d.b), .slice y.va y.d.V.length y.vc, .slice y.ma y.d.M.length y.mc] := h0 1 _ rfl
  clear h0
  have G0 := Gr.refl w
  refine wp_seq_k (fun K1 hK1 => ?_)
  refine wp_region_lit ?_
  refine sal (cs := #[.string (bs x.d.id), .int .i64 (x.d.s), .int .i64 (x.d.c), .int .i64 (x.d.t), .int .i64 (x.d.n), .int .i64 (x.d.b), .slice x.va x.d.V.length x.vc, .slice x.ma x.d.M.length x.mc]) ok0 rfl (wn _ rfl) rfl (o_box e0_0) (fun an2 w4 b3 W5 n2 => ?_)
  have l6 : w.heap.size ≤ b3 := by rw [W5.eq]; exact G0.size
  have G7 := G0.trans W5.gr
  refine sal (cs := #[.string (bs y.d.id), .int .i64 (y.d.s), .int .i64 (y.d.c), .int .i64 (y.d.t), .int .i64 (y.d.n), .int .i64 (y.d.b), .slice y.va y.d.V.length y.vc, .slice y.ma y.d.M.length y.mc]) n2.ok rfl (wn _ rfl) rfl (o_box (n2.ne rfl e0_1)) (fun an8 w10 b9 W11 n8 => ?_)
  have l12 : b3 < b9 := by rw [W11.eq]; exact W5.bk.lt
  have l13 : w.heap.size ≤ b9 := by rw [W11.eq]; exact G7.size
  have G14 := G7.trans W11.gr
  have B15 := W5.bk.gr W11.gr
  refine sv n8.ok rfl (wn _ rfl) rfl (o_as ev_const) (fun an16 n16 => ?_)
  refine wpList_nil ?_
  refine th_n (hK1 _ _ ?_)
  refine wp_seq_k (fun K17 hK17 => ?_)
  refine reg_start (N := 17) (m := 13) (by kernel_rfl) (fun R180 => ?_)
  have R181 := R180.snoc (n' := 1) rfl (fun vJ _ => vJ = .pointer (some ⟨b3, 0, none⟩)) rfl (fun _ _ _ _ h => h) (fun aS wS pS => by
      exact Does.val (wn _ rfl) (o_fa (z := 1) ((pS.old 2 rfl).trans (n16.ne rfl (n8.ne rfl n2.at_))) Try.underlying32 rfl (by kernel_rfl) rfl rfl) (Gr.refl _) rfl rfl)
  have R182 := R181.snoc (n' := 2) rfl (fun vJ _ => vJ = .string (bs x.d.id)) rfl (fun _ _ _ _ h => h) (fun aS wS pS => by
      have eR18_0 : aS.eval (.tmp 5) = .pointer (some ⟨b3, 0, none⟩) := pS.pre 0 rfl
      exact Does.val (wn _ rfl) (o_ld (eR18_0) (Try.isAgg9 _) ((Bk.gr B15 (gr_drew pS.gr)).cell _ rfl)) (Gr.refl _) rfl rfl)
  have R183 := R182.snoc (n' := 3) rfl (fun vJ _ => vJ = .pointer (some ⟨b9, 0, none⟩)) rfl (fun _ _ _ _ h => h) (fun aS wS pS => by
      exact Does.val (wn _ rfl) (o_fa (z := 1) ((pS.old 3 rfl).trans (n16.ne rfl n8.at_)) Try.underlying32 rfl (by kernel_rfl) rfl rfl) (Gr.refl _) rfl rfl)
  have R184 := R183.snoc (n' := 4) rfl (fun vJ _ => vJ = .string (bs y.d.id)) rfl (fun _ _ _ _ h => h) (fun aS wS pS => by
      have eR18_2 : aS.eval (.tmp 7) = .pointer (some ⟨b9, 0, none⟩) := pS.pre 2 rfl
      exact Does.val (wn _ rfl) (o_ld (eR18_2) (Try.isAgg9 _) ((Bk.gr W11.bk (gr_drew pS.gr)).cell _ rfl)) (Gr.refl _) rfl rfl)
  have R185 := R184.snoc (n' := 5) rfl (fun vJ _ => vJ = .int .i64 (cmpS x.d.id y.d.id)) rfl (fun _ _ _ _ h => h) (fun aS wS pS => by
      have eR18_1 : aS.eval (.tmp 6) = .string (bs x.d.id) := pS.pre 1 rfl
      have eR18_3 : aS.eval (.tmp 8) = .string (bs y.d.id) := pS.pre 3 rfl
      exact Does.call (wn _ rfl) (o_f2 Try.func89 rfl rfl rfl (eR18_1) (eR18_3)) (cmpStr x.d.id y.d.id wS) (by rintro _ w2 ⟨rfl, g⟩; exact ⟨_, rfl, g, rfl⟩) rfl)
  have R186 := R185.snoc (n' := 6) rfl (fun vJ _ => vJ = .pointer (some ⟨b3, 1, none⟩)) rfl (fun _ _ _ _ h => h) (fun aS wS pS => by
      exact Does.val (wn _ rfl) (o_fa (z := 2) ((pS.old 2 rfl).trans (n16.ne rfl (n8.ne rfl n2.at_))) Try.underlying32 rfl (by kernel_rfl) rfl rfl) (Gr.refl _) rfl rfl)
  have R187 := R186.snoc (n' := 7) rfl (fun vJ _ => vJ = .agg #[.int .i64 (x.d.s), .int .i64 (x.d.c)]) rfl (fun _ _ _ _ h => h) (fun aS wS pS => by
      have eR18_5 : aS.eval (.tmp 10) = .pointer (some ⟨b3, 1, none⟩) := pS.pre 5 rfl
      exact Does.val (wn _ rfl) (o_ldA (k := 1) (cs := [.int .i64 (x.d.s), .int .i64 (x.d.c)]) (eR18_5) (bk_part (Bk.gr B15 (gr_drew pS.gr)) rfl) Try.underlying24 rfl (by kernel_rfl)) (Gr.refl _) rfl rfl)
  have R188 := R187.snoc (n' := 8) rfl (fun vJ _ => vJ = .pointer (some ⟨b9, 1, none⟩)) rfl (fun _ _ _ _ h => h) (fun aS wS pS => by
      exact Does.val (wn _ rfl) (o_fa (z := 2) ((pS.old 3 rfl).trans (n16.ne rfl n8.at_)) Try.underlying32 rfl (by kernel_rfl) rfl rfl) (Gr.refl _) rfl rfl)
  have R189 := R188.snoc (n' := 9) rfl (fun vJ _ => vJ = .agg #[.int .i64 (y.d.s), .int .i64 (y.d.c)]) rfl (fun _ _ _ _ h => h) (fun aS wS pS => by
      have eR18_7 : aS.eval (.tmp 12) = .pointer (some ⟨b9, 1, none⟩) := pS.pre 7 rfl
      exact Does.val (wn _ rfl) (o_ldA (k := 1) (cs := [.int .i64 (y.d.s), .int .i64 (y.d.c)]) (eR18_7) (bk_part (Bk.gr W11.bk (gr_drew pS.gr)) rfl) Try.underlying24 rfl (by kernel_rfl)) (Gr.refl _) rfl rfl)
  have R1810 := R189.snoc (n' := 10) rfl (fun vJ _ => vJ = .int .i64 (cmpP x.d.s x.d.c y.d.s y.d.c)) rfl (fun _ _ _ _ h => h) (fun aS wS pS => by
      have eR18_6 : aS.eval (.tmp 11) = .agg #[.int .i64 (x.d.s), .int .i64 (x.d.c)] := pS.pre 6 rfl
      have eR18_8 : aS.eval (.tmp 13) = .agg #[.int .i64 (y.d.s), .int .i64 (y.d.c)] := pS.pre 8 rfl
      exact Does.call (wn _ rfl) (o_f2 Try.func82 rfl rfl rfl (eR18_6) (eR18_8)) (cmpDots_any x.d.s x.d.c y.d.s y.d.c wS) (by rintro _ w2 ⟨rfl, g⟩; exact ⟨_, rfl, g, rfl⟩) rfl)
  have R1811 := R1810.snoc (n' := 11) rfl (fun vJ wJ => ∃ b20 : Nat, vJ = .slice (some ⟨b20, 0, none⟩) 2 2 ∧ w10.heap.size ≤ b20 ∧ Bk wJ b20 #[.int .i64 (cmpS x.d.id y.d.id), .int .i64 (cmpP x.d.s x.d.c y.d.s y.d.c)] 3) rfl (fun _ _ _ g ⟨b, h1, h2, h3⟩ => ⟨b, h1, h2, h3.gr g⟩) (fun aS wS pS => by
      have eR18_4 : aS.eval (.tmp 9) = .int .i64 (cmpS x.d.id y.d.id) := pS.pre 4 rfl
      have eR18_9 : aS.eval (.tmp 14) = .int .i64 (cmpP x.d.s x.d.c y.d.s y.d.c) := pS.pre 9 rfl
      obtain ⟨i19, i19a, i19b, i19c⟩ := info3_of (show (Try.prog.info? 3).map (fun i => (i.zero, i.size)) = some (some (.int .i64 0), 1) by kernel_rfl)
      exact Does.val (wn _ rfl) (o_bs (vs := [(0, .int .i64 (cmpS x.d.id y.d.id)), (1, .int .i64 (cmpP x.d.s x.d.c y.d.s y.d.c))]) (by simp [(eR18_4), (eR18_9), ev_const]) Try.underlying27 i19a i19b (by rw [i19c]; rfl) (by rw [i19c]; rfl) (by rw [i19c]; kernel_rfl)) ((Gr.refl _).alloc _) ⟨_, rfl, pS.gr.size, (New.mk' _ _ _).bk⟩ rfl)
  have R1812 := R1811.snoc (n' := 12) rfl (fun vJ _ => vJ = .int .i64 (orC (cmpS x.d.id y.d.id) (cmpP x.d.s x.d.c y.d.s y.d.c))) rfl (fun _ _ _ _ h => h) (fun aS wS pS => by
      obtain ⟨b20, eR18_10, geb20, bkb20⟩ := pS.pre 10 rfl
      have eR18_10 : aS.eval (.tmp 15) = .slice (some ⟨b20, 0, none⟩) 2 2 := eR18_10
      exact Does.call (wn _ rfl) (o_f1 Try.func88 rfl rfl rfl (eR18_10)) (orG (cmpS x.d.id y.d.id) (cmpP x.d.s x.d.c y.d.s y.d.c) _ _ wS bkb20) (by rintro _ w2 ⟨rfl, g⟩; exact ⟨_, rfl, g, rfl⟩) rfl)
  have R1813 := R1812.snoc (n' := 13) rfl (fun vJ _ => vJ = .int .i64 (orC (cmpS x.d.id y.d.id) (cmpP x.d.s x.d.c y.d.s y.d.c))) rfl (fun _ _ _ _ h => h) (fun aS wS pS => by
      have eR18_11 : aS.eval (.tmp 16) = .int .i64 (orC (cmpS x.d.id y.d.id) (cmpP x.d.s x.d.c y.d.s y.d.c)) := pS.pre 11 rfl
      exact Does.val (wn _ rfl) (o_as (eR18_11)) (Gr.refl _) rfl rfl)
  refine R1813.run (k := 0) (L := #[true, true, true, true, true, true, true, true, true, true, true, true, true]) (by kernel_rfl) (by kernel_rfl) (by kernel_rfl) n16.ok (by kernel_rfl) (by kernel_rfl) (fun ap22 w23 p22 => ?_)
  have g24 := gr_drew p22.gr
  have G25 := G14.trans g24
  have B26 := B15.gr g24
  have B27 := W11.bk.gr g24
  obtain ⟨b20, ep22_10, geb20, bkb20⟩ := p22.js 10 rfl
  have ep22_10 : ap22.eval (.tmp 15) = .slice (some ⟨b20, 0, none⟩) 2 2 := ep22_10
  have l28 : b3 < b20 := Nat.lt_of_lt_of_le B15.lt geb20
  have l29 : b9 < b20 := Nat.lt_of_lt_of_le W11.bk.lt geb20
  have l30 : w.heap.size ≤ b20 := Nat.le_trans G14.size geb20
  refine wpAny_done (by kernel_rfl) ?_ _
  refine th_n (hK17 _ _ ?_)
  refine wp_ret ?_
  have ep22_12 : ap22.eval (.tmp 4) = .int .i64 (orC (cmpS x.d.id y.d.id) (cmpP x.d.s x.d.c y.d.s y.d.c)) := p22.js 12 rfl
  exact ret1 p22.ok rfl (ep22_12) ⟨rfl, G25⟩
set_option maxHeartbeats 8000000 in
set_option maxRecDepth 100000 in
theorem supBy_any (y : VerI) (w : World) :
    Calls Try.prog 59 #[.agg #[.string (bs y.d.id), .int .i64 (y.d.s), .int .i64 (y.d.c), .int .i64 (y.d.t), .int .i64 (y.d.n), .int .i64 (y.d.b), .slice y.va y.d.V.length y.vc, .slice y.ma y.d.M.length y.mc]] w fun e w' => ∃ b, e = .returned (.func (.func 90) #[] #[.pointer (some ⟨b, 0, none⟩)]) ∧ w.heap.size ≤ b ∧ Bk w' b #[.string (bs y.d.id), .int .i64 (y.d.s), .int .i64 (y.d.c), .int .i64 (y.d.t), .int .i64 (y.d.n), .int .i64 (y.d.b), .slice y.va y.d.V.length y.vc, .slice y.ma y.d.M.length y.mc] 32 ∧ Gr w w' := by
  refine enter (N := 4) Try.func59 rfl rfl rfl (fun a0 ok0 h0 => ?_)
  have e0_0 : a0.eval (.tmp 0) = .agg #[.string (bs y.d.id), .int .i64 (y.d.s), .int .i64 (y.d.c), .int .i64 (y.d.t), .int .i64 (y.d.n), .int .i64 (y.d.b), .slice y.va y.d.V.length y.vc, .slice y.ma y.d.M.length y.mc] := h0 0 _ rfl
  clear h0
  have G0 := Gr.refl w
  refine wp_seq_k (fun K1 hK1 => ?_)
  refine wp_region_lit ?_
  refine sal (cs := #[.string (bs y.d.id), .int .i64 (y.d.s), .int .i64 (y.d.c), .int .i64 (y.d.t), .int .i64 (y.d.n), .int .i64 (y.d.b), .slice y.va y.d.V.length y.vc, .slice y.ma y.d.M.length y.mc]) ok0 rfl (wn _ rfl) rfl (o_box e0_0) (fun an2 w4 b3 W5 n2 => ?_)
  have l6 : w.heap.size ≤ b3 := by rw [W5.eq]; exact G0.size
  have G7 := G0.trans W5.gr
  refine sv n2.ok rfl (wn _ rfl) rfl (o_as ev_const) (fun an8 n8 => ?_)
  refine wpList_nil ?_
  refine th_n (hK1 _ _ ?_)
  refine wp_seq_k (fun K9 hK9 => ?_)
  refine wp_region_lit ?_
  refine sv n8.ok rfl (wn _ rfl) rfl (o_mf (fs := []) (cs := [.pointer (some ⟨b3, 0, none⟩)]) (by simp) (by simp [(n8.ne rfl n2.at_)])) (fun an10 n10 => ?_)
  refine sv n10.ok rfl (wn _ rfl) rfl (o_as n10.at_) (fun an11 n11 => ?_)
  refine wpList_nil ?_
  refine th_n (hK9 _ _ ?_)
  refine wp_ret ?_
  exact ret1 n11.ok rfl (n11.at_) ⟨b3, rfl, l6, W5.bk, G7⟩
set_option maxHeartbeats 8000000 in
set_option maxRecDepth 100000 in
theorem supBy1_any (x y : VerI) (b : Nat) (hx : okVr x) (hy : chkK y.d.V y.d.M = 0) (w : World) (hm : MeanV w y) (hb : Bk w b #[.string (bs y.d.id), .int .i64 (y.d.s), .int .i64 (y.d.c), .int .i64 (y.d.t), .int .i64 (y.d.n), .int .i64 (y.d.b), .slice y.va y.d.V.length y.vc, .slice y.ma y.d.M.length y.mc] 32) :
    Calls Try.prog 90 #[.agg #[.string (bs x.d.id), .int .i64 (x.d.s), .int .i64 (x.d.c), .int .i64 (x.d.t), .int .i64 (x.d.n), .int .i64 (x.d.b), .slice x.va x.d.V.length x.vc, .slice x.ma x.d.M.length x.mc], .pointer (some ⟨b, 0, none⟩)] w fun e w' => e = .returned (.bool (ovB y.d x.d)) ∧ Gr w w' := by
  refine enter (N := 16) Try.func90 rfl rfl rfl (fun a0 ok0 h0 => ?_)
  have e0_0 : a0.eval (.tmp 0) = .agg #[.string (bs x.d.id), .int .i64 (x.d.s), .int .i64 (x.d.c), .int .i64 (x.d.t), .int .i64 (x.d.n), .int .i64 (x.d.b), .slice x.va x.d.V.length x.vc, .slice x.ma x.d.M.length x.mc] := h0 0 _ rfl
  have e0_1 : a0.eval (.tmp 1) = .pointer (some ⟨b, 0, none⟩) := h0 1 _ rfl
  clear h0
  have G0 := Gr.refl w
  refine wp_seq_k (fun K1 hK1 => ?_)
  refine wp_region_lit ?_
  refine sal (cs := #[.string (bs x.d.id), .int .i64 (x.d.s), .int .i64 (x.d.c), .int .i64 (x.d.t), .int .i64 (x.d.n), .int .i64 (x.d.b), .slice x.va x.d.V.length x.vc, .slice x.ma x.d.M.length x.mc]) ok0 rfl (wn _ rfl) rfl (o_box e0_0) (fun an2 w4 b3 W5 n2 => ?_)
  have l6 : b < b3 := by rw [W5.eq]; exact hb.lt
  have l7 : w.heap.size ≤ b3 := by rw [W5.eq]; exact G0.size
  have G8 := G0.trans W5.gr
  have B9 := hb.gr W5.gr
  refine sv n2.ok rfl (wn _ rfl) rfl (o_as ev_const) (fun an10 n10 => ?_)
  refine wpList_nil ?_
  refine th_n (hK1 _ _ ?_)
  refine wp_seq_k (fun K11 hK11 => ?_)
  refine wp_region_lit ?_
  refine sv n10.ok rfl (wn _ rfl) rfl (o_fa (z := 1) (n10.ne rfl n2.at_) Try.underlying32 rfl (by kernel_rfl) rfl rfl) (fun an12 n12 => ?_)
  refine sv n12.ok rfl (wn _ rfl) rfl (o_ld n12.at_ (Try.isAgg9 _) (W5.bk.cell _ rfl)) (fun an13 n13 => ?_)
  have e14 := n13.ne rfl (n12.ne rfl (n10.ne rfl (n2.ne rfl e0_1)))
  refine sv n13.ok rfl (wn _ rfl) rfl (o_fa (z := 1) e14 Try.underlying32 rfl (by kernel_rfl) rfl rfl) (fun an15 n15 => ?_)
  refine sv n15.ok rfl (wn _ rfl) rfl (o_ld n15.at_ (Try.isAgg9 _) (B9.cell _ rfl)) (fun an16 n16 => ?_)
  refine sv n16.ok rfl (wn _ rfl) rfl (o_eqS (n16.ne rfl (n15.ne rfl n13.at_)) n16.at_) (fun an17 n17 => ?_)
  refine sv n17.ok rfl (wn _ rfl) rfl (o_mv n17.at_) (fun an18 n18 => ?_)
  by_cases c19 : x.d.id = y.d.id
  · have e20 := (n18.at_).trans (congrArg Value.bool (decide_eq_true c19))
    have e21 := ((n18.ne rfl n17.at_)).trans (congrArg Value.bool (decide_eq_true c19))
    have e22 := n18.ne rfl (n17.ne rfl (n16.ne rfl (n15.ne rfl e14)))
    refine sv n18.ok rfl (wgT rfl (yl 5 true rfl e20) rfl) rfl (o_fa (z := 2) e22 Try.underlying32 rfl (by kernel_rfl) rfl rfl) (fun an23 n23 => ?_)
    refine sv n23.ok rfl (wgT rfl (yl 5 true rfl (n23.ne rfl e20)) rfl) rfl (o_ldA (k := 6) (cs := [.slice y.va y.d.V.length y.vc, .slice y.ma y.d.M.length y.mc]) n23.at_ (bk_part B9 rfl) Try.underlying30 rfl (by kernel_rfl)) (fun an24 n24 => ?_)
    have e25 := n24.ne rfl (n23.ne rfl (n18.ne rfl (n17.ne rfl (n16.ne rfl (n15.ne rfl (n13.ne rfl (n12.ne rfl (n10.ne rfl n2.at_))))))))
    refine sv n24.ok rfl (wgT rfl (yl 5 true rfl (n24.ne rfl (n23.ne rfl e20))) rfl) rfl (o_fa (z := 2) e25 Try.underlying32 rfl (by kernel_rfl) rfl rfl) (fun an26 n26 => ?_)
    have e27 := n26.ne rfl (n24.ne rfl (n23.ne rfl e20))
    refine sv n26.ok rfl (wgT rfl (yl 5 true rfl e27) rfl) rfl (o_ldA (k := 1) (cs := [.int .i64 (x.d.s), .int .i64 (x.d.c)]) n26.at_ (bk_part W5.bk rfl) Try.underlying24 rfl (by kernel_rfl)) (fun an28 n28 => ?_)
    refine sc n28.ok rfl (wgT rfl (yl 5 true rfl (n28.ne rfl e27)) rfl) rfl (o_f2 Try.func52 rfl rfl rfl (n28.ne rfl (n26.ne rfl n24.at_)) n28.at_) (vhas_any y.va y.ma y.vc y.mc y.d.V y.d.M x.d.s x.d.c hy (argB_dot (chkOne_zero hx).2.1) w4 (MeanV.gr hm G8)) ?_
    rintro _ w30 ⟨rfl, g31⟩
    refine ⟨_, rfl, fun an29 n29 => ?_⟩
    have G32 := G8.trans g31
    have B33 := B9.gr g31
    have B34 := W5.bk.gr g31
    refine sv n29.ok rfl (wn _ rfl) rfl (o_pkT (n29.ne rfl (n28.ne rfl e27)) n29.at_) (fun an35 n35 => ?_)
    refine sv n35.ok rfl (wn _ rfl) rfl (o_as n35.at_) (fun an36 n36 => ?_)
    refine wpList_nil ?_
    refine th_n (hK11 _ _ ?_)
    refine wp_ret ?_
    exact ret1 n36.ok rfl (n36.at_) ⟨by unfold ovB; rw [decide_eq_true c19]; rfl, G32⟩
  · have e37 := (n18.at_).trans (congrArg Value.bool (decide_eq_false c19))
    have e38 := ((n18.ne rfl n17.at_)).trans (congrArg Value.bool (decide_eq_false c19))
    refine sn n18.ok rfl (wgF rfl (yl 5 false rfl e37) rfl) rfl (fun an39 n39 => ?_)
    refine sn n39.ok rfl (wgF rfl (yl 5 false rfl (n39.ne rfl e37)) rfl) rfl (fun an40 n40 => ?_)
    refine sn n40.ok rfl (wgF rfl (yl 5 false rfl (n40.ne rfl (n39.ne rfl e37))) rfl) rfl (fun an41 n41 => ?_)
    have e42 := n41.ne rfl (n40.ne rfl (n39.ne rfl e37))
    refine sn n41.ok rfl (wgF rfl (yl 5 false rfl e42) rfl) rfl (fun an43 n43 => ?_)
    refine sn n43.ok rfl (wgF rfl (yl 5 false rfl (n43.ne rfl e42)) rfl) rfl (fun an44 n44 => ?_)
    refine sv n44.ok rfl (wn _ rfl) rfl (o_pkF (n44.ne rfl (n43.ne rfl e42)) ev_const) (fun an45 n45 => ?_)
    refine sv n45.ok rfl (wn _ rfl) rfl (o_as n45.at_) (fun an46 n46 => ?_)
    refine wpList_nil ?_
    refine th_n (hK11 _ _ ?_)
    refine wp_ret ?_
    exact ret1 n46.ok rfl (n46.at_) ⟨by unfold ovB; rw [decide_eq_false c19]; rfl, G8⟩
set_option maxHeartbeats 8000000 in
set_option maxRecDepth 100000 in
theorem indexV (K : List VerI) (va : Option Addr) (vc : Nat) (f : FuncId) (caps : List Value) (p : VerI → Bool) (hf : FnOk Try.prog f) (hl : K.length ≤ 100000) (w : World) (hv : RdA encVr 8 w va K) (hc : ∀ x ∈ K, ∀ w1, Gr w w1 → Calls Try.prog f (.agg #[.string (bs x.d.id), .int .i64 (x.d.s), .int .i64 (x.d.c), .int .i64 (x.d.t), .int .i64 (x.d.n), .int .i64 (x.d.b), .slice x.va x.d.V.length x.vc, .slice x.ma x.d.M.length x.mc] :: caps).toArray w1 fun e w2 => e = .returned (.bool (p x)) ∧ Gr w1 w2) :
    Calls Try.prog 68 #[.slice va K.length vc, .func (.func f) #[] caps.toArray] w fun e w' => e = .returned (.int .i64 (ixF p K 0)) ∧ Gr w w' := by
  refine enter (N := 19) Try.func68 rfl rfl rfl (fun a0 ok0 h0 => ?_)
  have e0_0 : a0.eval (.tmp 0) = .slice va K.length vc := h0 0 _ rfl
  have e0_1 : a0.eval (.tmp 1) = .func (.func f) #[] caps.toArray := h0 1 _ rfl
  clear h0
  have G0 := Gr.refl w
  refine wp_seq_k (fun K1 hK1 => ?_)
  refine wp_region_lit ?_
  refine sv ok0 rfl (wn _ rfl) rfl (o_as ev_const) (fun an2 n2 => ?_)
  refine wpList_nil ?_
  refine th_n (hK1 _ _ ?_)
  refine wp_seq_k (fun K3 hK3 => ?_)
  refine wp_seq_k (fun K4 hK4 => ?_)
  refine wp_region_lit ?_
  refine sv n2.ok rfl (wn _ rfl) rfl (o_mv (n2.ne rfl e0_0)) (fun an5 n5 => ?_)
  refine sv n5.ok rfl (wn _ rfl) rfl (o_len n5.at_ Try.underlying22) (fun an6 n6 => ?_)
  refine sv n6.ok rfl (wn _ rfl) rfl (o_mv ev_const) (fun an7 n7 => ?_)
  refine wpList_nil ?_
  refine th_n (hK4 _ _ ?_)
  refine wp_block ?_
  have e9 := n7.ne rfl (n6.ne rfl (n5.ne rfl (n2.ne rfl e0_0)))
  have e10 := n7.ne rfl (n6.ne rfl (n5.ne rfl (n2.ne rfl e0_1)))
  have e11 := n7.ne rfl (n6.ne rfl (n5.ne rfl n2.at_))
  refine lp (fun (nL : Nat) (aL : Act) (wL : World) => ∃ i : Nat, nL = K.length - i ∧ Ok 19 aL ∧ Gr w wL ∧ (aL.eval (.tmp 0) = .slice va K.length vc) ∧ (aL.eval (.tmp 1) = .func (.func f) #[] caps.toArray) ∧ (aL.eval (.tmp 4) = .int .i64 0) ∧ (aL.eval (.tmp 7) = .int .i64 ((K.length : Nat) : Int)) ∧ (aL.eval (.tmp 8) = .int .i64 (i : Int)) ∧ (i ≤ K.length) ∧ (∀ k y, k < i → K[k]? = some y → p y = false)) _ ⟨0, rfl, n7.ok, G0, e9, e10, e11, (n7.ne rfl n6.at_), n7.at_, by omega, fun k y hk => by omega⟩ ?_
  rintro m12 aI8 w14 ⟨i, hmI8, okI8, GI8, s0I8, s1I8, s4I8, s7I8, s8I8, hiI8, hbI8⟩ KI8 hKI8
  refine wp_seq_k (fun K15 hK15 => ?_)
  refine wp_region_lit ?_
  refine sv okI8 rfl (wn _ rfl) rfl (o_ltI s8I8 s7I8) (fun an16 n16 => ?_)
  refine wpList_nil ?_
  refine th_n (hK15 _ _ ?_)
  refine wp_seq_k (fun K17 hK17 => ?_)
  by_cases c18 : (i : Int) < ((K.length : Nat) : Int)
  · refine wp_cond_true ((n16.at_).trans (congrArg Value.bool (decide_eq_true c18))) ?_
    refine wp_skip ?_
    refine th_n (hK17 _ _ ?_)
    refine wp_seq_k (fun K19 hK19 => ?_)
    refine wp_block ?_
    refine wp_seq_k (fun K20 hK20 => ?_)
    refine wp_region_lit ?_
    refine sv n16.ok rfl (wn _ rfl) rfl (o_mv (n16.ne rfl s8I8)) (fun an21 n21 => ?_)
    refine sv n21.ok rfl (wn _ rfl) rfl (o_as n21.at_) (fun an22 n22 => ?_)
    refine wpList_nil ?_
    refine th_n (hK20 _ _ ?_)
    refine wp_seq_k (fun K23 hK23 => ?_)
    refine wp_region_lit ?_
    have e24 := n22.ne rfl (n21.ne rfl (n16.ne rfl s1I8))
    refine sv n22.ok rfl (wn _ rfl) rfl (o_mv e24) (fun an25 n25 => ?_)
    have e26 := n25.ne rfl (n22.ne rfl (n21.ne rfl (n16.ne rfl s0I8)))
    refine sv n25.ok rfl (wn _ rfl) rfl (o_mv e26) (fun an27 n27 => ?_)
    refine sv n27.ok rfl (wn _ rfl) rfl (o_mv (n27.ne rfl (n25.ne rfl n22.at_))) (fun an28 n28 => ?_)
    have h29l : i < List.length K := by omega
    obtain ⟨bh29, fh29, h29a, h29b, h29c⟩ := hv (ne_nil_of_lt h29l)
    obtain ⟨xh29, h29x⟩ : ∃ x, (K)[i]? = some x := ⟨_, List.getElem?_eq_getElem h29l⟩
    refine sv n28.ok rfl (wn _ rfl) rfl (o_iaV (i := i) (s := 8) h29a (n28.ne rfl n27.at_) n28.at_ Try.underlying22 (by kernel_rfl) h29l) (fun an30 n30 => ?_)
    refine sv n30.ok rfl (wn _ rfl) rfl (o_ldA (k := fh29 + i * 8) n30.at_ (cs := [.string (bs xh29.d.id), .int .i64 (xh29.d.s), .int .i64 (xh29.d.c), .int .i64 (xh29.d.t), .int .i64 (xh29.d.n), .int .i64 (xh29.d.b), .slice xh29.va xh29.d.V.length xh29.vc, .slice xh29.ma xh29.d.M.length xh29.mc]) (fun j v hv => (Below.cell GI8 h29b).trans (h29c _ _ h29x j v hv)) Try.underlying32 rfl (by kernel_rfl)) (fun an31 n31 => ?_)
    have e32 := n31.ne rfl (n30.ne rfl (n28.ne rfl (n27.ne rfl n25.at_)))
    refine sc n31.ok rfl (wn _ rfl) rfl (o_fv1 (caps := caps) hf e32 n31.at_) (hc _ (List.mem_of_getElem? h29x) w14 GI8) ?_
    rintro _ w34 ⟨rfl, g35⟩
    refine ⟨_, rfl, fun an33 n33 => ?_⟩
    have G36 := GI8.trans g35
    refine wpList_nil ?_
    refine th_n (hK23 _ _ ?_)
    cases c37 : (p xh29)
    · refine wp_cond_false ((n33.at_).trans (congrArg Value.bool (c37))) ?_
      refine wp_skip ?_
      refine ib_n ?_
      refine th_n (hK19 _ _ ?_)
      refine wp_region_lit ?_
      have e38 := n33.ne rfl (n31.ne rfl (n30.ne rfl (n28.ne rfl (n27.ne rfl (n25.ne rfl (n22.ne rfl (n21.ne rfl (n16.ne rfl s8I8))))))))
      refine sv n33.ok rfl (wn _ rfl) rfl (o_add (r := ((i + 1 : Nat) : Int)) e38 ev_const (by omega) (by omega)) (fun an39 n39 => ?_)
      refine sv n39.ok rfl (wn _ rfl) rfl (o_mv n39.at_) (fun an40 n40 => ?_)
      refine wpList_nil ?_
      have e41 := n40.ne rfl (n39.ne rfl (n33.ne rfl (n31.ne rfl (n30.ne rfl (n28.ne rfl (n27.ne rfl e26))))))
      have e42 := n40.ne rfl (n39.ne rfl (n33.ne rfl (n31.ne rfl (n30.ne rfl (n28.ne rfl (n27.ne rfl (n25.ne rfl e24)))))))
      have e43 := n40.ne rfl (n39.ne rfl (n33.ne rfl (n31.ne rfl (n30.ne rfl (n28.ne rfl (n27.ne rfl (n25.ne rfl (n22.ne rfl (n21.ne rfl (n16.ne rfl s4I8))))))))))
      have e44 := n40.ne rfl (n39.ne rfl (n33.ne rfl (n31.ne rfl (n30.ne rfl (n28.ne rfl (n27.ne rfl (n25.ne rfl (n22.ne rfl (n21.ne rfl (n16.ne rfl s7I8))))))))))
      exact th_n (hKI8 _ _ _ (by omega) ⟨i + 1, rfl, n40.ok, G36, e41, e42, e43, e44, n40.at_, by omega, fun k y hk hy => by
          rcases Nat.lt_or_ge k i with q | q
          · exact hbI8 k y q hy
          · obtain rfl : k = i := by omega
            rw [h29x] at hy
            cases hy
            exact c37⟩)
    · refine wp_cond_true ((n33.at_).trans (congrArg Value.bool (c37))) ?_
      refine wp_seq_k (fun K45 hK45 => ?_)
      refine wp_region_lit ?_
      have e46 := n33.ne rfl (n31.ne rfl (n30.ne rfl (n28.ne rfl (n27.ne rfl (n25.ne rfl n22.at_)))))
      refine sv n33.ok rfl (wn _ rfl) rfl (o_mv e46) (fun an47 n47 => ?_)
      refine sv n47.ok rfl (wn _ rfl) rfl (o_as n47.at_) (fun an48 n48 => ?_)
      refine wpList_nil ?_
      refine th_n (hK45 _ _ ?_)
      refine wp_ret ?_
      refine ib_r ?_
      refine th_r ?_
      refine th_r ?_
      refine ib_r ?_
      refine th_r ?_
      exact ret1 n48.ok rfl (n48.at_) ⟨congrArg (fun n => Ending.returned (Value.int .i64 n)) ((ixF_some K 0 i _ h29x c37 hbI8).trans (congrArg Int.ofNat (Nat.zero_add _))).symm, G36⟩
  · refine wp_cond_false ((n16.at_).trans (congrArg Value.bool (decide_eq_false c18))) ?_
    refine wp_exit ?_
    refine th_x ?_
    refine th_x ?_
    refine ib_x ?_
    refine th_n (hK3 _ _ ?_)
    refine wp_seq_k (fun K49 hK49 => ?_)
    refine wp_region_lit ?_
    refine sv n16.ok rfl (wn _ rfl) rfl (o_as ev_const) (fun an50 n50 => ?_)
    refine wpList_nil ?_
    refine th_n (hK49 _ _ ?_)
    refine wp_ret ?_
    exact ret1 n50.ok rfl (n50.at_) ⟨congrArg (fun n => Ending.returned (Value.int .i64 n)) (ixF_none K 0 (fun x hx => by
        obtain ⟨k, hk⟩ := List.getElem?_of_mem hx
        have hlt := (List.getElem?_eq_some_iff.1 hk).1
        exact hbI8 k x (by omega) hk)).symm, GI8⟩
set_option maxHeartbeats 8000000 in
set_option maxRecDepth 100000 in
theorem containsV (K : List VerI) (va : Option Addr) (vc : Nat) (f : FuncId) (caps : List Value) (p : VerI → Bool) (hf : FnOk Try.prog f) (hl : K.length ≤ 100000) (w : World) (hv : RdA encVr 8 w va K) (hc : ∀ x ∈ K, ∀ w1, Gr w w1 → Calls Try.prog f (.agg #[.string (bs x.d.id), .int .i64 (x.d.s), .int .i64 (x.d.c), .int .i64 (x.d.t), .int .i64 (x.d.n), .int .i64 (x.d.b), .slice x.va x.d.V.length x.vc, .slice x.ma x.d.M.length x.mc] :: caps).toArray w1 fun e w2 => e = .returned (.bool (p x)) ∧ Gr w1 w2) :
    Calls Try.prog 29 #[.slice va K.length vc, .func (.func f) #[] caps.toArray] w fun e w' => e = .returned (.bool (K.any p)) ∧ Gr w w' := by
  refine enter (N := 9) Try.func29 rfl rfl rfl (fun a0 ok0 h0 => ?_)
  have e0_0 : a0.eval (.tmp 0) = .slice va K.length vc := h0 0 _ rfl
  have e0_1 : a0.eval (.tmp 1) = .func (.func f) #[] caps.toArray := h0 1 _ rfl
  clear h0
  have G0 := Gr.refl w
  refine wp_seq_k (fun K1 hK1 => ?_)
  refine wp_region_lit ?_
  refine sv ok0 rfl (wn _ rfl) rfl (o_as ev_const) (fun an2 n2 => ?_)
  refine wpList_nil ?_
  refine th_n (hK1 _ _ ?_)
  refine wp_seq_k (fun K3 hK3 => ?_)
  refine wp_region_lit ?_
  refine sv n2.ok rfl (wn _ rfl) rfl (o_mv (n2.ne rfl e0_0)) (fun an4 n4 => ?_)
  refine sv n4.ok rfl (wn _ rfl) rfl (o_mv (n4.ne rfl (n2.ne rfl e0_1))) (fun an5 n5 => ?_)
  refine sc n5.ok rfl (wn _ rfl) rfl (o_f2 Try.func68 rfl rfl rfl (n5.ne rfl n4.at_) n5.at_) (indexV K va vc f caps p hf hl w (hv.gr G0) (fun x hx w1 g1 => hc x hx w1 (G0.trans g1))) ?_
  rintro _ w7 ⟨rfl, g8⟩
  refine ⟨_, rfl, fun an6 n6 => ?_⟩
  have G9 := G0.trans g8
  refine sv n6.ok rfl (wn _ rfl) rfl (o_geI n6.at_ ev_const) (fun an10 n10 => ?_)
  refine sv n10.ok rfl (wn _ rfl) rfl (o_as n10.at_) (fun an11 n11 => ?_)
  refine wpList_nil ?_
  refine th_n (hK3 _ _ ?_)
  refine wp_ret ?_
  exact ret1 n11.ok rfl (n11.at_) ⟨congrArg (fun b => Ending.returned (Value.bool b)) (ixF_any p K 0), G9⟩
set_option maxHeartbeats 8000000 in
set_option maxRecDepth 100000 in
theorem vchk_any (K : List VerI) (va : Option Addr) (vc : Nat) (w : World) (hv : RdA encVr 8 w va K) (hm : MeansV w K) :
    Calls Try.prog 17 #[.slice va K.length vc] w fun e w' => e = .returned (.int .i64 (chkShf (K.map VerI.d))) ∧ Gr w w' := by
  refine enter (N := 47) Try.func17 rfl rfl rfl (fun a0 ok0 h0 => ?_)
  have e0_0 : a0.eval (.tmp 0) = .slice va K.length vc := h0 0 _ rfl
  clear h0
  have G0 := Gr.refl w
  refine wp_seq_k (fun K1 hK1 => ?_)
  refine wp_region_lit ?_
  refine sv ok0 rfl (wn _ rfl) rfl (o_as ev_const) (fun an2 n2 => ?_)
  refine wpList_nil ?_
  refine th_n (hK1 _ _ ?_)
  refine wp_seq_k (fun K3 hK3 => ?_)
  refine wp_seq_k (fun K4 hK4 => ?_)
  refine wp_region_lit ?_
  refine sv n2.ok rfl (wn _ rfl) rfl (o_mv (n2.ne rfl e0_0)) (fun an5 n5 => ?_)
  refine sv n5.ok rfl (wn _ rfl) rfl (o_len n5.at_ Try.underlying22) (fun an6 n6 => ?_)
  refine sv n6.ok rfl (wn _ rfl) rfl (o_gtI n6.at_ ev_const) (fun an7 n7 => ?_)
  refine wpList_nil ?_
  refine th_n (hK4 _ _ ?_)
  by_cases c8 : (60 : Int) < ((K.length : Nat) : Int)
  · refine wp_cond_true ((n7.at_).trans (congrArg Value.bool (decide_eq_true c8))) ?_
    refine wp_seq_k (fun K9 hK9 => ?_)
    refine wp_region_lit ?_
    refine sv n7.ok rfl (wn _ rfl) rfl (o_as ev_const) (fun an10 n10 => ?_)
    refine wpList_nil ?_
    refine th_n (hK9 _ _ ?_)
    refine wp_ret ?_
    refine th_r ?_
    exact ret1 n10.ok rfl (n10.at_) ⟨congrArg (fun n => Ending.returned (Value.int .i64 n)) (Eq.symm (by unfold chkShf; rw [if_pos (by rw [List.length_map]; omega)])), G0⟩
  · refine wp_cond_false ((n7.at_).trans (congrArg Value.bool (decide_eq_false c8))) ?_
    refine wp_skip ?_
    refine th_n (hK3 _ _ ?_)
    refine wp_seq_k (fun K11 hK11 => ?_)
    refine wp_seq_k (fun K12 hK12 => ?_)
    refine wp_region_lit ?_
    have e13 := n7.ne rfl (n6.ne rfl (n5.ne rfl (n2.ne rfl e0_0)))
    refine sv n7.ok rfl (wn _ rfl) rfl (o_mv e13) (fun an14 n14 => ?_)
    refine sv n14.ok rfl (wn _ rfl) rfl (o_len n14.at_ Try.underlying22) (fun an15 n15 => ?_)
    refine sv n15.ok rfl (wn _ rfl) rfl (o_mv ev_const) (fun an16 n16 => ?_)
    refine wpList_nil ?_
    refine th_n (hK12 _ _ ?_)
    refine wp_block ?_
    have e18 := n16.ne rfl (n15.ne rfl (n14.ne rfl e13))
    have e19 := n16.ne rfl (n15.ne rfl (n14.ne rfl (n7.ne rfl (n6.ne rfl (n5.ne rfl n2.at_)))))
    refine lp (fun (nL : Nat) (aL : Act) (wL : World) => ∃ i : Nat, nL = K.length - i ∧ Ok 47 aL ∧ Gr w wL ∧ (aL.eval (.tmp 0) = .slice va K.length vc) ∧ (aL.eval (.tmp 2) = .int .i64 0) ∧ (aL.eval (.tmp 11) = .slice va K.length vc) ∧ (aL.eval (.tmp 12) = .int .i64 ((K.length : Nat) : Int)) ∧ (aL.eval (.tmp 13) = .int .i64 (i : Int)) ∧ (i ≤ K.length) ∧ (chkRow none (K.map VerI.d) = chkRow (prevV K i) ((K.map VerI.d).drop i))) _ ⟨0, rfl, n16.ok, G0, e18, e19, (n16.ne rfl (n15.ne rfl n14.at_)), (n16.ne rfl n15.at_), n16.at_, by omega, rfl⟩ ?_
    rintro m20 aI17 w22 ⟨i, hmI17, okI17, GI17, s0I17, s2I17, s11I17, s12I17, s13I17, hiI17, hgI17⟩ KI17 hKI17
    refine wp_seq_k (fun K23 hK23 => ?_)
    refine wp_region_lit ?_
    refine sv okI17 rfl (wn _ rfl) rfl (o_ltI s13I17 s12I17) (fun an24 n24 => ?_)
    refine wpList_nil ?_
    refine th_n (hK23 _ _ ?_)
    refine wp_seq_k (fun K25 hK25 => ?_)
    by_cases c26 : (i : Int) < ((K.length : Nat) : Int)
    · refine wp_cond_true ((n24.at_).trans (congrArg Value.bool (decide_eq_true c26))) ?_
      refine wp_skip ?_
      refine th_n (hK25 _ _ ?_)
      refine wp_seq_k (fun K27 hK27 => ?_)
      refine wp_block ?_
      refine wp_seq_k (fun K28 hK28 => ?_)
      refine wp_region_lit ?_
      refine sv n24.ok rfl (wn _ rfl) rfl (o_mv (n24.ne rfl s13I17)) (fun an29 n29 => ?_)
      have h30l : i < List.length K := by omega
      obtain ⟨bh30, fh30, h30a, h30b, h30c⟩ := hv (ne_nil_of_lt h30l)
      obtain ⟨xh30, h30x⟩ : ∃ x, (K)[i]? = some x := ⟨_, List.getElem?_eq_getElem h30l⟩
      refine sv n29.ok rfl (wn _ rfl) rfl (o_iaV (i := i) (s := 8) h30a (n29.ne rfl (n24.ne rfl s11I17)) (n29.ne rfl (n24.ne rfl s13I17)) Try.underlying22 (by kernel_rfl) h30l) (fun an31 n31 => ?_)
      refine sv n31.ok rfl (wn _ rfl) rfl (o_ldA (k := fh30 + i * 8) n31.at_ (cs := [.string (bs xh30.d.id), .int .i64 (xh30.d.s), .int .i64 (xh30.d.c), .int .i64 (xh30.d.t), .int .i64 (xh30.d.n), .int .i64 (xh30.d.b), .slice xh30.va xh30.d.V.length xh30.vc, .slice xh30.ma xh30.d.M.length xh30.mc]) (fun j v hv => (Below.cell GI17 h30b).trans (h30c _ _ h30x j v hv)) Try.underlying32 rfl (by kernel_rfl)) (fun an32 n32 => ?_)
      refine sal (cs := #[.string (bs []), .int .i64 0, .int .i64 0, .int .i64 0, .int .i64 0, .int .i64 0, .slice none 0 0, .slice none 0 0]) n32.ok rfl (wn _ rfl) rfl (o_al (z := .agg #[.string (bs []), .int .i64 0, .int .i64 0, .int .i64 0, .int .i64 0, .int .i64 0, .slice none 0 0, .slice none 0 0]) (by kernel_rfl)) (fun an33 w35 b34 W36 n33 => ?_)
      have l37 : w.heap.size ≤ b34 := by rw [W36.eq]; exact GI17.size
      have G38 := GI17.trans W36.gr
      have e39 := n33.ne rfl (n32.ne rfl (n31.ne rfl n29.at_))
      refine sv n33.ok rfl (wn _ rfl) rfl (o_as e39) (fun an40 n40 => ?_)
      refine ssR rfl (wn _ rfl) (o_stR (n40.ne rfl n33.at_) (n40.ne rfl (n33.ne rfl n32.at_)) W36.bk (by kernel_rfl) rfl (by simp [Value.oneCell'])) W36.bk (fun w41 u42 u42b => ?_)
      have G43 : Gr w w41 := Below.upd G38 l37 u42
      refine wpList_nil ?_
      refine th_n (hK28 _ _ ?_)
      refine wp_seq_k (fun K44 hK44 => ?_)
      refine wp_seq_k (fun K45 hK45 => ?_)
      refine wp_region_lit ?_
      refine sv n40.ok rfl (wn _ rfl) rfl (o_ldR (n40.ne rfl n33.at_) u42b Try.underlying32 rfl (by kernel_rfl)) (fun an46 n46 => ?_)
      refine sc n46.ok rfl (wn _ rfl) rfl (o_f1 Try.func15 rfl rfl rfl n46.at_) (vone_any xh30 w41 ((hm _ (List.mem_of_getElem? h30x)).gr G43)) ?_
      rintro _ w48 ⟨rfl, g49⟩
      refine ⟨_, rfl, fun an47 n47 => ?_⟩
      have G50 := G43.trans g49
      have B51 := u42b.gr g49
      refine sv n47.ok rfl (wn _ rfl) rfl (o_as n47.at_) (fun an52 n52 => ?_)
      refine wpList_nil ?_
      refine th_n (hK45 _ _ ?_)
      refine wp_seq_k (fun K53 hK53 => ?_)
      refine wp_region_lit ?_
      refine sv n52.ok rfl (wn _ rfl) rfl (o_mv n52.at_) (fun an54 n54 => ?_)
      refine sv n54.ok rfl (wn _ rfl) rfl (o_neI n54.at_ ev_const) (fun an55 n55 => ?_)
      refine wpList_nil ?_
      refine th_n (hK53 _ _ ?_)
      by_cases c56 : ¬ (chkOne xh30.d) = 0
      · refine wp_cond_true ((n55.at_).trans (congrArg Value.bool (decide_eq_true c56))) ?_
        refine wp_seq_k (fun K57 hK57 => ?_)
        refine wp_region_lit ?_
        refine sv n55.ok rfl (wn _ rfl) rfl (o_mv (n55.ne rfl (n54.ne rfl n52.at_))) (fun an58 n58 => ?_)
        refine sv n58.ok rfl (wn _ rfl) rfl (o_as n58.at_) (fun an59 n59 => ?_)
        refine wpList_nil ?_
        refine th_n (hK57 _ _ ?_)
        refine wp_ret ?_
        refine th_r ?_
        refine ib_r ?_
        refine th_r ?_
        refine th_r ?_
        refine ib_r ?_
        refine th_r ?_
        exact ret1 n59.ok rfl (n59.at_) ⟨congrArg (fun n => Ending.returned (Value.int .i64 n)) (Eq.symm (by unfold chkShf; have e4 : chkRow none (K.map VerI.d) = chkOne xh30.d := (by rw [hgI17, chkRow_at h30x, if_neg c56]); rw [if_neg (by rw [List.length_map]; omega), if_neg (by rw [e4]; exact c56), e4])), G50⟩
      · refine wp_cond_false ((n55.at_).trans (congrArg Value.bool (decide_eq_false c56))) ?_
        refine wp_skip ?_
        refine th_n (hK44 _ _ ?_)
        refine wp_seq_k (fun K60 hK60 => ?_)
        rcases Nat.eq_zero_or_pos i with hi0 | hi0
        · have hi1 := hi0
          refine reg_start (N := 47) (m := 12) (by kernel_rfl) (fun R610 => ?_)
          have e62 := n55.ne rfl (n54.ne rfl (n52.ne rfl (n47.ne rfl (n46.ne rfl n40.at_))))
          have R611 := R610.snoc (n' := 1) rfl (fun vJ _ => vJ = .int .i64 (i : Int)) rfl (fun _ _ _ _ h => h) (fun aS wS pS => by
              exact Does.val (wn _ rfl) (o_mv ((pS.old 3 rfl).trans e62)) (Gr.refl _) rfl rfl)
          have R612 := R611.snoc (n' := 2) rfl (fun vJ _ => vJ = .bool false) rfl (fun _ _ _ _ h => h) (fun aS wS pS => by
              have eR61_0 : aS.eval (.tmp 23) = .int .i64 (i : Int) := pS.pre 0 rfl
              exact Does.val (wn _ rfl) (o_gtr (eR61_0) ev_const (decide_eq_false (show ¬ (i : Int) > 0 by omega))) (Gr.refl _) rfl rfl)
          have R613 := R612.snoc (n' := 3) rfl (fun vJ _ => vJ = .bool false) rfl (fun _ _ _ _ h => h) (fun aS wS pS => by
              have eR61_1 : aS.eval (.tmp 24) = .bool false := pS.pre 1 rfl
              exact Does.val (wn _ rfl) (o_mv (eR61_1)) (Gr.refl _) rfl rfl)
          have R614 := R613.snoc (n' := 4) rfl (fun vJ _ => vJ = undef) rfl (fun _ _ _ _ h => h) (fun aS wS pS => by
              have eR61_2 : aS.eval (.tmp 25) = .bool false := pS.pre 2 rfl
              exact Does.not (wgF rfl (yl 2 false rfl eR61_2) rfl) rfl rfl)
          have R615 := R614.snoc (n' := 5) rfl (fun vJ _ => vJ = undef) rfl (fun _ _ _ _ h => h) (fun aS wS pS => by
              have eR61_2 : aS.eval (.tmp 25) = .bool false := pS.pre 2 rfl
              exact Does.not (wgF rfl (yl 2 false rfl eR61_2) rfl) rfl rfl)
          have R616 := R615.snoc (n' := 6) rfl (fun vJ _ => vJ = undef) rfl (fun _ _ _ _ h => h) (fun aS wS pS => by
              have eR61_2 : aS.eval (.tmp 25) = .bool false := pS.pre 2 rfl
              exact Does.not (wgF rfl (yl 2 false rfl eR61_2) rfl) rfl rfl)
          have R617 := R616.snoc (n' := 7) rfl (fun vJ _ => vJ = undef) rfl (fun _ _ _ _ h => h) (fun aS wS pS => by
              have eR61_2 : aS.eval (.tmp 25) = .bool false := pS.pre 2 rfl
              exact Does.not (wgF rfl (yl 2 false rfl eR61_2) rfl) rfl rfl)
          have R618 := R617.snoc (n' := 8) rfl (fun vJ _ => vJ = undef) rfl (fun _ _ _ _ h => h) (fun aS wS pS => by
              have eR61_2 : aS.eval (.tmp 25) = .bool false := pS.pre 2 rfl
              exact Does.not (wgF rfl (yl 2 false rfl eR61_2) rfl) rfl rfl)
          have R619 := R618.snoc (n' := 9) rfl (fun vJ _ => vJ = undef) rfl (fun _ _ _ _ h => h) (fun aS wS pS => by
              have eR61_2 : aS.eval (.tmp 25) = .bool false := pS.pre 2 rfl
              exact Does.not (wgF rfl (yl 2 false rfl eR61_2) rfl) rfl rfl)
          have R6110 := R619.snoc (n' := 10) rfl (fun vJ _ => vJ = undef) rfl (fun _ _ _ _ h => h) (fun aS wS pS => by
              have eR61_2 : aS.eval (.tmp 25) = .bool false := pS.pre 2 rfl
              exact Does.not (wgF rfl (yl 2 false rfl eR61_2) rfl) rfl rfl)
          have R6111 := R6110.snoc (n' := 11) rfl (fun vJ _ => vJ = undef) rfl (fun _ _ _ _ h => h) (fun aS wS pS => by
              have eR61_2 : aS.eval (.tmp 25) = .bool false := pS.pre 2 rfl
              exact Does.not (wgF rfl (yl 2 false rfl eR61_2) rfl) rfl rfl)
          have R6112 := R6111.snoc (n' := 12) rfl (fun vJ _ => vJ = .bool false) rfl (fun _ _ _ _ h => h) (fun aS wS pS => by
              have eR61_2 : aS.eval (.tmp 25) = .bool false := pS.pre 2 rfl
              exact Does.val (wn _ rfl) (o_pkF (eR61_2) ev_const) (Gr.refl _) rfl rfl)
          refine R6112.run (k := 0) (L := #[true, true, true, true, true, true, true, true, true, true, true, true]) (by kernel_rfl) (by kernel_rfl) (by kernel_rfl) n55.ok (by kernel_rfl) (by kernel_rfl) (fun ap64 w65 p64 => ?_)
          have g66 := gr_drew p64.gr
          have G67 := G50.trans g66
          have B68 := B51.gr g66
          refine wpAny_done (by kernel_rfl) ?_ _
          refine th_n (hK60 _ _ ?_)
          have ep64_11 : ap64.eval (.tmp 34) = .bool false := p64.js 11 rfl
          refine wp_cond_false (ep64_11) ?_
          refine wp_skip ?_
          refine ib_n ?_
          refine th_n (hK27 _ _ ?_)
          refine wp_region_lit ?_
          have e69 := (p64.old 13 rfl).trans (n55.ne rfl (n54.ne rfl (n52.ne rfl (n47.ne rfl (n46.ne rfl (n40.ne rfl (n33.ne rfl (n32.ne rfl (n31.ne rfl (n29.ne rfl (n24.ne rfl s13I17)))))))))))
          refine sv p64.ok rfl (wn _ rfl) rfl (o_add (r := ((i + 1 : Nat) : Int)) e69 ev_const (by omega) (by omega)) (fun an70 n70 => ?_)
          refine sv n70.ok rfl (wn _ rfl) rfl (o_mv n70.at_) (fun an71 n71 => ?_)
          refine wpList_nil ?_
          have e72 := n71.ne rfl (n70.ne rfl ((p64.old 0 rfl).trans (n55.ne rfl (n54.ne rfl (n52.ne rfl (n47.ne rfl (n46.ne rfl (n40.ne rfl (n33.ne rfl (n32.ne rfl (n31.ne rfl (n29.ne rfl (n24.ne rfl s0I17)))))))))))))
          have e73 := n71.ne rfl (n70.ne rfl ((p64.old 2 rfl).trans (n55.ne rfl (n54.ne rfl (n52.ne rfl (n47.ne rfl (n46.ne rfl (n40.ne rfl (n33.ne rfl (n32.ne rfl (n31.ne rfl (n29.ne rfl (n24.ne rfl s2I17)))))))))))))
          have e74 := n71.ne rfl (n70.ne rfl ((p64.old 11 rfl).trans (n55.ne rfl (n54.ne rfl (n52.ne rfl (n47.ne rfl (n46.ne rfl (n40.ne rfl (n33.ne rfl (n32.ne rfl (n31.ne rfl (n29.ne rfl (n24.ne rfl s11I17)))))))))))))
          have e75 := n71.ne rfl (n70.ne rfl ((p64.old 12 rfl).trans (n55.ne rfl (n54.ne rfl (n52.ne rfl (n47.ne rfl (n46.ne rfl (n40.ne rfl (n33.ne rfl (n32.ne rfl (n31.ne rfl (n29.ne rfl (n24.ne rfl s12I17)))))))))))))
          exact th_n (hKI17 _ _ _ (by omega) ⟨i + 1, rfl, n71.ok, G67, e72, e73, e74, e75, n71.at_, by omega, by rw [hgI17, chkRow_at h30x, if_pos (Decidable.of_not_not c56), if_neg (by rw [show prevV K i = none from by unfold prevV; rw [if_pos (by omega)]]; simp), prevV_succ h30x]⟩)
        · have hi1 := hi0
          obtain ⟨p1, hp1⟩ : ∃ p1, p1 = i - 1 := ⟨_, rfl⟩
          refine reg_start (N := 47) (m := 12) (by kernel_rfl) (fun R760 => ?_)
          have e77 := n55.ne rfl (n54.ne rfl (n52.ne rfl (n47.ne rfl (n46.ne rfl n40.at_))))
          have R761 := R760.snoc (n' := 1) rfl (fun vJ _ => vJ = .int .i64 (i : Int)) rfl (fun _ _ _ _ h => h) (fun aS wS pS => by
              exact Does.val (wn _ rfl) (o_mv ((pS.old 3 rfl).trans e77)) (Gr.refl _) rfl rfl)
          have R762 := R761.snoc (n' := 2) rfl (fun vJ _ => vJ = .bool true) rfl (fun _ _ _ _ h => h) (fun aS wS pS => by
              have eR76_0 : aS.eval (.tmp 23) = .int .i64 (i : Int) := pS.pre 0 rfl
              exact Does.val (wn _ rfl) (o_gtr (eR76_0) ev_const (decide_eq_true (show (i : Int) > 0 by omega))) (Gr.refl _) rfl rfl)
          have R763 := R762.snoc (n' := 3) rfl (fun vJ _ => vJ = .bool true) rfl (fun _ _ _ _ h => h) (fun aS wS pS => by
              have eR76_1 : aS.eval (.tmp 24) = .bool true := pS.pre 1 rfl
              exact Does.val (wn _ rfl) (o_mv (eR76_1)) (Gr.refl _) rfl rfl)
          have e78 := n55.ne rfl (n54.ne rfl (n52.ne rfl (n47.ne rfl (n46.ne rfl (n40.ne rfl (n33.ne rfl (n32.ne rfl (n31.ne rfl (n29.ne rfl (n24.ne rfl s0I17))))))))))
          have R764 := R763.snoc (n' := 4) rfl (fun vJ _ => vJ = .slice va K.length vc) rfl (fun _ _ _ _ h => h) (fun aS wS pS => by
              have eR76_2 : aS.eval (.tmp 25) = .bool true := pS.pre 2 rfl
              exact Does.val (wgT rfl (yl 2 true rfl eR76_2) rfl) (o_mv ((pS.old 0 rfl).trans e78)) (Gr.refl _) rfl rfl)
          have R765 := R764.snoc (n' := 5) rfl (fun vJ _ => vJ = .int .i64 (i : Int)) rfl (fun _ _ _ _ h => h) (fun aS wS pS => by
              have eR76_2 : aS.eval (.tmp 25) = .bool true := pS.pre 2 rfl
              exact Does.val (wgT rfl (yl 2 true rfl eR76_2) rfl) (o_mv ((pS.old 3 rfl).trans e77)) (Gr.refl _) rfl rfl)
          have R766 := R765.snoc (n' := 6) rfl (fun vJ _ => vJ = .int .i64 (p1 : Int)) rfl (fun _ _ _ _ h => h) (fun aS wS pS => by
              have eR76_2 : aS.eval (.tmp 25) = .bool true := pS.pre 2 rfl
              have eR76_4 : aS.eval (.tmp 27) = .int .i64 (i : Int) := pS.pre 4 rfl
              exact Does.val (wgT rfl (yl 2 true rfl eR76_2) rfl) (o_sub (r := ((p1 : Nat) : Int)) (eR76_4) ev_const (by omega) (by omega)) (Gr.refl _) rfl rfl)
          have h79l : p1 < List.length K := by omega
          obtain ⟨bh79, fh79, h79a, h79b, h79c⟩ := hv (ne_nil_of_lt h79l)
          obtain ⟨xh79, h79x⟩ : ∃ x, (K)[p1]? = some x := ⟨_, List.getElem?_eq_getElem h79l⟩
          have R767 := R766.snoc (n' := 7) rfl (fun vJ _ => vJ = .pointer (some ⟨bh79, fh79 + p1 * 8, none⟩)) rfl (fun _ _ _ _ h => h) (fun aS wS pS => by
              have eR76_2 : aS.eval (.tmp 25) = .bool true := pS.pre 2 rfl
              have eR76_3 : aS.eval (.tmp 26) = .slice va K.length vc := pS.pre 3 rfl
              have eR76_5 : aS.eval (.tmp 28) = .int .i64 (p1 : Int) := pS.pre 5 rfl
              exact Does.val (wgT rfl (yl 2 true rfl eR76_2) rfl) (o_iaV (i := p1) (s := 8) h79a (eR76_3) (eR76_5) Try.underlying22 (by kernel_rfl) h79l) (Gr.refl _) rfl rfl)
          have R768 := R767.snoc (n' := 8) rfl (fun vJ _ => vJ = .agg #[.string (bs xh79.d.id), .int .i64 (xh79.d.s), .int .i64 (xh79.d.c), .int .i64 (xh79.d.t), .int .i64 (xh79.d.n), .int .i64 (xh79.d.b), .slice xh79.va xh79.d.V.length xh79.vc, .slice xh79.ma xh79.d.M.length xh79.mc]) rfl (fun _ _ _ _ h => h) (fun aS wS pS => by
              have eR76_2 : aS.eval (.tmp 25) = .bool true := pS.pre 2 rfl
              have eR76_6 : aS.eval (.tmp 29) = .pointer (some ⟨bh79, fh79 + p1 * 8, none⟩) := pS.pre 6 rfl
              exact Does.val (wgT rfl (yl 2 true rfl eR76_2) rfl) (o_ldA (k := fh79 + p1 * 8) (eR76_6) (cs := [.string (bs xh79.d.id), .int .i64 (xh79.d.s), .int .i64 (xh79.d.c), .int .i64 (xh79.d.t), .int .i64 (xh79.d.n), .int .i64 (xh79.d.b), .slice xh79.va xh79.d.V.length xh79.vc, .slice xh79.ma xh79.d.M.length xh79.mc]) (fun j v hv => (Below.cell (G50.trans (gr_drew pS.gr)) h79b).trans (h79c _ _ h79x j v hv)) Try.underlying32 rfl (by kernel_rfl)) (Gr.refl _) rfl rfl)
          have e80 := n55.ne rfl (n54.ne rfl (n52.ne rfl (n47.ne rfl (n46.ne rfl (n40.ne rfl n33.at_)))))
          have R769 := R768.snoc (n' := 9) rfl (fun vJ _ => vJ = .agg #[.string (bs xh30.d.id), .int .i64 (xh30.d.s), .int .i64 (xh30.d.c), .int .i64 (xh30.d.t), .int .i64 (xh30.d.n), .int .i64 (xh30.d.b), .slice xh30.va xh30.d.V.length xh30.vc, .slice xh30.ma xh30.d.M.length xh30.mc]) rfl (fun _ _ _ _ h => h) (fun aS wS pS => by
              have eR76_2 : aS.eval (.tmp 25) = .bool true := pS.pre 2 rfl
              exact Does.val (wgT rfl (yl 2 true rfl eR76_2) rfl) (o_ldR ((pS.old 4 rfl).trans e80) (Bk.gr B51 (gr_drew pS.gr)) Try.underlying32 rfl (by kernel_rfl)) (Gr.refl _) rfl rfl)
          have R7610 := R769.snoc (n' := 10) rfl (fun vJ _ => vJ = .int .i64 (cmpV xh79.d xh30.d)) rfl (fun _ _ _ _ h => h) (fun aS wS pS => by
              have eR76_2 : aS.eval (.tmp 25) = .bool true := pS.pre 2 rfl
              have eR76_7 : aS.eval (.tmp 30) = .agg #[.string (bs xh79.d.id), .int .i64 (xh79.d.s), .int .i64 (xh79.d.c), .int .i64 (xh79.d.t), .int .i64 (xh79.d.n), .int .i64 (xh79.d.b), .slice xh79.va xh79.d.V.length xh79.vc, .slice xh79.ma xh79.d.M.length xh79.mc] := pS.pre 7 rfl
              have eR76_8 : aS.eval (.tmp 31) = .agg #[.string (bs xh30.d.id), .int .i64 (xh30.d.s), .int .i64 (xh30.d.c), .int .i64 (xh30.d.t), .int .i64 (xh30.d.n), .int .i64 (xh30.d.b), .slice xh30.va xh30.d.V.length xh30.vc, .slice xh30.ma xh30.d.M.length xh30.mc] := pS.pre 8 rfl
              exact Does.call (wgT rfl (yl 2 true rfl eR76_2) rfl) (o_f2 Try.func58 rfl rfl rfl (eR76_7) (eR76_8)) (cmpVr_any xh79 xh30 wS) (by rintro _ w2 ⟨rfl, g⟩; exact ⟨_, rfl, g, rfl⟩) rfl)
          have R7611 := R7610.snoc (n' := 11) rfl (fun vJ _ => vJ = .bool (decide ((0 : Int) ≤ (cmpV xh79.d xh30.d)))) rfl (fun _ _ _ _ h => h) (fun aS wS pS => by
              have eR76_2 : aS.eval (.tmp 25) = .bool true := pS.pre 2 rfl
              have eR76_9 : aS.eval (.tmp 32) = .int .i64 (cmpV xh79.d xh30.d) := pS.pre 9 rfl
              exact Does.val (wgT rfl (yl 2 true rfl eR76_2) rfl) (o_geI (eR76_9) ev_const) (Gr.refl _) rfl rfl)
          have R7612 := R7611.snoc (n' := 12) rfl (fun vJ _ => vJ = .bool (decide ((0 : Int) ≤ (cmpV xh79.d xh30.d)))) rfl (fun _ _ _ _ h => h) (fun aS wS pS => by
              have eR76_2 : aS.eval (.tmp 25) = .bool true := pS.pre 2 rfl
              have eR76_10 : aS.eval (.tmp 33) = .bool (decide ((0 : Int) ≤ (cmpV xh79.d xh30.d))) := pS.pre 10 rfl
              exact Does.val (wn _ rfl) (o_pkT (eR76_2) (eR76_10)) (Gr.refl _) rfl rfl)
          refine R7612.run (k := 0) (L := #[true, true, true, true, true, true, true, true, true, true, true, true]) (by kernel_rfl) (by kernel_rfl) (by kernel_rfl) n55.ok (by kernel_rfl) (by kernel_rfl) (fun ap82 w83 p82 => ?_)
          have g84 := gr_drew p82.gr
          have G85 := G50.trans g84
          have B86 := B51.gr g84
          refine wpAny_done (by kernel_rfl) ?_ _
          refine th_n (hK60 _ _ ?_)
          have ep82_11 : ap82.eval (.tmp 34) = .bool (decide ((0 : Int) ≤ (cmpV xh79.d xh30.d))) := p82.js 11 rfl
          by_cases c87 : (0 : Int) ≤ (cmpV xh79.d xh30.d)
          · refine wp_cond_true ((ep82_11).trans (congrArg Value.bool (decide_eq_true c87))) ?_
            refine wp_seq_k (fun K88 hK88 => ?_)
            refine wp_region_lit ?_
            refine sv p82.ok rfl (wn _ rfl) rfl (o_as ev_const) (fun an89 n89 => ?_)
            refine wpList_nil ?_
            refine th_n (hK88 _ _ ?_)
            refine wp_ret ?_
            refine ib_r ?_
            refine th_r ?_
            refine th_r ?_
            refine ib_r ?_
            refine th_r ?_
            exact ret1 n89.ok rfl (n89.at_) ⟨congrArg (fun n => Ending.returned (Value.int .i64 n)) (Eq.symm (by unfold chkShf; have e3 : chkRow none (K.map VerI.d) = 3 := (by rw [hgI17, chkRow_at h30x, if_pos (Decidable.of_not_not c56), if_pos (by rw [show prevV K i = some xh79.d from by unfold prevV; rw [if_neg (by omega), ← hp1, h79x]; rfl]; simp only [Option.any_some, decide_eq_true_eq]; exact c87)]); rw [if_neg (by rw [List.length_map]; omega), if_neg (by rw [e3]; decide), e3])), G85⟩
          · refine wp_cond_false ((ep82_11).trans (congrArg Value.bool (decide_eq_false c87))) ?_
            refine wp_skip ?_
            refine ib_n ?_
            refine th_n (hK27 _ _ ?_)
            refine wp_region_lit ?_
            have e90 := (p82.old 13 rfl).trans (n55.ne rfl (n54.ne rfl (n52.ne rfl (n47.ne rfl (n46.ne rfl (n40.ne rfl (n33.ne rfl (n32.ne rfl (n31.ne rfl (n29.ne rfl (n24.ne rfl s13I17)))))))))))
            refine sv p82.ok rfl (wn _ rfl) rfl (o_add (r := ((i + 1 : Nat) : Int)) e90 ev_const (by omega) (by omega)) (fun an91 n91 => ?_)
            refine sv n91.ok rfl (wn _ rfl) rfl (o_mv n91.at_) (fun an92 n92 => ?_)
            refine wpList_nil ?_
            have e93 := n92.ne rfl (n91.ne rfl ((p82.old 0 rfl).trans e78))
            have e94 := n92.ne rfl (n91.ne rfl ((p82.old 2 rfl).trans (n55.ne rfl (n54.ne rfl (n52.ne rfl (n47.ne rfl (n46.ne rfl (n40.ne rfl (n33.ne rfl (n32.ne rfl (n31.ne rfl (n29.ne rfl (n24.ne rfl s2I17)))))))))))))
            have e95 := n92.ne rfl (n91.ne rfl ((p82.old 11 rfl).trans (n55.ne rfl (n54.ne rfl (n52.ne rfl (n47.ne rfl (n46.ne rfl (n40.ne rfl (n33.ne rfl (n32.ne rfl (n31.ne rfl (n29.ne rfl (n24.ne rfl s11I17)))))))))))))
            have e96 := n92.ne rfl (n91.ne rfl ((p82.old 12 rfl).trans (n55.ne rfl (n54.ne rfl (n52.ne rfl (n47.ne rfl (n46.ne rfl (n40.ne rfl (n33.ne rfl (n32.ne rfl (n31.ne rfl (n29.ne rfl (n24.ne rfl s12I17)))))))))))))
            exact th_n (hKI17 _ _ _ (by omega) ⟨i + 1, rfl, n92.ok, G85, e93, e94, e95, e96, n92.at_, by omega, by rw [hgI17, chkRow_at h30x, if_pos (Decidable.of_not_not c56), if_neg (by rw [show prevV K i = some xh79.d from by unfold prevV; rw [if_neg (by omega), ← hp1, h79x]; rfl]; simp only [Option.any_some, decide_eq_true_eq]; exact c87), prevV_succ h30x]⟩)
    · refine wp_cond_false ((n24.at_).trans (congrArg Value.bool (decide_eq_false c26))) ?_
      refine wp_exit ?_
      refine th_x ?_
      refine th_x ?_
      refine ib_x ?_
      refine th_n (hK11 _ _ ?_)
      refine wp_seq_k (fun K97 hK97 => ?_)
      refine wp_seq_k (fun K98 hK98 => ?_)
      refine wp_region_lit ?_
      refine sv n24.ok rfl (wn _ rfl) rfl (o_mv (n24.ne rfl s0I17)) (fun an99 n99 => ?_)
      refine sv n99.ok rfl (wn _ rfl) rfl (o_len n99.at_ Try.underlying22) (fun an100 n100 => ?_)
      refine sv n100.ok rfl (wn _ rfl) rfl (o_mv ev_const) (fun an101 n101 => ?_)
      refine wpList_nil ?_
      refine th_n (hK98 _ _ ?_)
      refine wp_block ?_
      have hz : chkRow none (K.map VerI.d) = 0 := by rw [hgI17, List.drop_eq_nil_of_le (by simp; omega)]; cases prevV K i <;> rfl
      have hok := chkRow_all hz
      have e103 := n101.ne rfl (n100.ne rfl (n99.ne rfl (n24.ne rfl s0I17)))
      have e104 := n101.ne rfl (n100.ne rfl (n99.ne rfl (n24.ne rfl s2I17)))
      refine lp (fun (nL : Nat) (aL : Act) (wL : World) => ∃ k : Nat, nL = K.length - k ∧ Ok 47 aL ∧ Gr w wL ∧ (aL.eval (.tmp 0) = .slice va K.length vc) ∧ (aL.eval (.tmp 2) = .int .i64 0) ∧ (aL.eval (.tmp 36) = .slice va K.length vc) ∧ (aL.eval (.tmp 37) = .int .i64 ((K.length : Nat) : Int)) ∧ (aL.eval (.tmp 38) = .int .i64 (k : Int)) ∧ (k ≤ K.length) ∧ (∀ j y, j < k → K[j]? = some y → (K.any fun z => ovB y.d z.d) = false)) _ ⟨0, rfl, n101.ok, GI17, e103, e104, (n101.ne rfl (n100.ne rfl n99.at_)), (n101.ne rfl n100.at_), n101.at_, by omega, fun j y hj => by omega⟩ ?_
      rintro m105 aI102 w107 ⟨k, hmI102, okI102, GI102, s0I102, s2I102, s36I102, s37I102, s38I102, hkI102, hnI102⟩ KI102 hKI102
      refine wp_seq_k (fun K108 hK108 => ?_)
      refine wp_region_lit ?_
      refine sv okI102 rfl (wn _ rfl) rfl (o_ltI s38I102 s37I102) (fun an109 n109 => ?_)
      refine wpList_nil ?_
      refine th_n (hK108 _ _ ?_)
      refine wp_seq_k (fun K110 hK110 => ?_)
      by_cases c111 : (k : Int) < ((K.length : Nat) : Int)
      · refine wp_cond_true ((n109.at_).trans (congrArg Value.bool (decide_eq_true c111))) ?_
        refine wp_skip ?_
        refine th_n (hK110 _ _ ?_)
        refine wp_seq_k (fun K112 hK112 => ?_)
        refine wp_block ?_
        refine wp_seq_k (fun K113 hK113 => ?_)
        refine wp_region_lit ?_
        have h114l : k < List.length K := by omega
        obtain ⟨bh114, fh114, h114a, h114b, h114c⟩ := hv (ne_nil_of_lt h114l)
        obtain ⟨xh114, h114x⟩ : ∃ x, (K)[k]? = some x := ⟨_, List.getElem?_eq_getElem h114l⟩
        refine sv n109.ok rfl (wn _ rfl) rfl (o_iaV (i := k) (s := 8) h114a (n109.ne rfl s36I102) (n109.ne rfl s38I102) Try.underlying22 (by kernel_rfl) h114l) (fun an115 n115 => ?_)
        refine sv n115.ok rfl (wn _ rfl) rfl (o_ldA (k := fh114 + k * 8) n115.at_ (cs := [.string (bs xh114.d.id), .int .i64 (xh114.d.s), .int .i64 (xh114.d.c), .int .i64 (xh114.d.t), .int .i64 (xh114.d.n), .int .i64 (xh114.d.b), .slice xh114.va xh114.d.V.length xh114.vc, .slice xh114.ma xh114.d.M.length xh114.mc]) (fun j v hv => (Below.cell GI102 h114b).trans (h114c _ _ h114x j v hv)) Try.underlying32 rfl (by kernel_rfl)) (fun an116 n116 => ?_)
        refine sal (cs := #[.string (bs []), .int .i64 0, .int .i64 0, .int .i64 0, .int .i64 0, .int .i64 0, .slice none 0 0, .slice none 0 0]) n116.ok rfl (wn _ rfl) rfl (o_al (z := .agg #[.string (bs []), .int .i64 0, .int .i64 0, .int .i64 0, .int .i64 0, .int .i64 0, .slice none 0 0, .slice none 0 0]) (by kernel_rfl)) (fun an117 w119 b118 W120 n117 => ?_)
        have l121 : w.heap.size ≤ b118 := by rw [W120.eq]; exact GI102.size
        have G122 := GI102.trans W120.gr
        refine ssR rfl (wn _ rfl) (o_stR n117.at_ (n117.ne rfl n116.at_) W120.bk (by kernel_rfl) rfl (by simp [Value.oneCell'])) W120.bk (fun w123 u124 u124b => ?_)
        have G125 : Gr w w123 := Below.upd G122 l121 u124
        refine wpList_nil ?_
        refine th_n (hK113 _ _ ?_)
        refine wp_seq_k (fun K126 hK126 => ?_)
        refine wp_region_lit ?_
        have e127 := n117.ne rfl (n116.ne rfl (n115.ne rfl (n109.ne rfl s0I102)))
        refine sv n117.ok rfl (wn _ rfl) rfl (o_mv e127) (fun an128 n128 => ?_)
        refine sv n128.ok rfl (wn _ rfl) rfl (o_ldR (n128.ne rfl n117.at_) u124b Try.underlying32 rfl (by kernel_rfl)) (fun an129 n129 => ?_)
        refine sc n129.ok rfl (wn _ rfl) rfl (o_f1 Try.func59 rfl rfl rfl n129.at_) (supBy_any xh114 w123) ?_
        rintro _ w131 ⟨cS, rfl, -, hbS, g132⟩
        refine ⟨_, rfl, fun an130 n130 => ?_⟩
        have G133 := G125.trans g132
        have B134 := u124b.gr g132
        have A136 := Gr.refl w131
        refine sc n130.ok rfl (wn _ rfl) rfl (o_f2 Try.func29 rfl rfl rfl (n130.ne rfl (n129.ne rfl n128.at_)) n130.at_) (containsV K va vc _ [.pointer (some ⟨cS, 0, none⟩)] (fun y => ovB xh114.d y.d) ⟨_, Try.func90, rfl, rfl⟩ (by omega) w131 (hv.gr G133) (fun y hy w1 g1 => supBy1_any y xh114 cS (hok y hy) (chkOne_zero (hok _ (List.mem_of_getElem? h114x))).2.2.1 w1 ((hm _ (List.mem_of_getElem? h114x)).gr (G133.trans g1)) (((hbS.gr A136)).gr g1))) ?_
        rintro _ w138 ⟨rfl, g139⟩
        refine ⟨_, rfl, fun an137 n137 => ?_⟩
        have G140 := G133.trans g139
        have B141 := B134.gr g139
        have A142 := A136.trans g139
        refine wpList_nil ?_
        refine th_n (hK126 _ _ ?_)
        cases c143 : (K.any fun y => ovB xh114.d y.d)
        · refine wp_cond_false ((n137.at_).trans (congrArg Value.bool (c143))) ?_
          refine wp_skip ?_
          refine ib_n ?_
          refine th_n (hK112 _ _ ?_)
          refine wp_region_lit ?_
          have e144 := n137.ne rfl (n130.ne rfl (n129.ne rfl (n128.ne rfl (n117.ne rfl (n116.ne rfl (n115.ne rfl (n109.ne rfl s38I102)))))))
          refine sv n137.ok rfl (wn _ rfl) rfl (o_add (r := ((k + 1 : Nat) : Int)) e144 ev_const (by omega) (by omega)) (fun an145 n145 => ?_)
          refine sv n145.ok rfl (wn _ rfl) rfl (o_mv n145.at_) (fun an146 n146 => ?_)
          refine wpList_nil ?_
          have e147 := n146.ne rfl (n145.ne rfl (n137.ne rfl (n130.ne rfl (n129.ne rfl (n128.ne rfl e127)))))
          have e148 := n146.ne rfl (n145.ne rfl (n137.ne rfl (n130.ne rfl (n129.ne rfl (n128.ne rfl (n117.ne rfl (n116.ne rfl (n115.ne rfl (n109.ne rfl s2I102)))))))))
          have e149 := n146.ne rfl (n145.ne rfl (n137.ne rfl (n130.ne rfl (n129.ne rfl (n128.ne rfl (n117.ne rfl (n116.ne rfl (n115.ne rfl (n109.ne rfl s36I102)))))))))
          have e150 := n146.ne rfl (n145.ne rfl (n137.ne rfl (n130.ne rfl (n129.ne rfl (n128.ne rfl (n117.ne rfl (n116.ne rfl (n115.ne rfl (n109.ne rfl s37I102)))))))))
          exact th_n (hKI102 _ _ _ (by omega) ⟨k + 1, rfl, n146.ok, G140, e147, e148, e149, e150, n146.at_, by omega, fun j y hj hy => by
              rcases Nat.lt_or_ge j k with q | q
              · exact hnI102 j y q hy
              · obtain rfl : j = k := by omega
                rw [h114x] at hy
                cases hy
                exact c143⟩)
        · refine wp_cond_true ((n137.at_).trans (congrArg Value.bool (c143))) ?_
          refine wp_seq_k (fun K151 hK151 => ?_)
          refine wp_region_lit ?_
          refine sv n137.ok rfl (wn _ rfl) rfl (o_as ev_const) (fun an152 n152 => ?_)
          refine wpList_nil ?_
          refine th_n (hK151 _ _ ?_)
          refine wp_ret ?_
          refine ib_r ?_
          refine th_r ?_
          refine th_r ?_
          refine ib_r ?_
          refine th_r ?_
          exact ret1 n152.ok rfl (n152.at_) ⟨congrArg (fun n => Ending.returned (Value.int .i64 n)) (Eq.symm (by unfold chkShf; rw [if_neg (by rw [List.length_map]; omega), if_pos hz, if_pos]; rw [List.any_map, List.any_eq_true]; exact ⟨_, List.mem_of_getElem? h114x, by show ((K.map VerI.d).any _) = true; rw [List.any_map]; exact c143⟩)), G140⟩
      · refine wp_cond_false ((n109.at_).trans (congrArg Value.bool (decide_eq_false c111))) ?_
        refine wp_exit ?_
        refine th_x ?_
        refine th_x ?_
        refine ib_x ?_
        refine th_n (hK97 _ _ ?_)
        refine wp_seq_k (fun K153 hK153 => ?_)
        refine wp_region_lit ?_
        refine sv n109.ok rfl (wn _ rfl) rfl (o_as ev_const) (fun an154 n154 => ?_)
        refine wpList_nil ?_
        refine th_n (hK153 _ _ ?_)
        refine wp_ret ?_
        exact ret1 n154.ok rfl (n154.at_) ⟨congrArg (fun n => Ending.returned (Value.int .i64 n)) (Eq.symm (by unfold chkShf; rw [if_neg (by rw [List.length_map]; omega), if_pos hz, if_neg]; rw [List.any_map, Bool.not_eq_true, List.any_eq_false]; intro y hy; obtain ⟨j, hj⟩ := List.getElem?_of_mem hy; have hjl := (List.getElem?_eq_some_iff.1 hj).1; have q := hnI102 j y (by omega) hj; show ¬ ((K.map VerI.d).any _) = true; rw [List.any_map]; rw [Bool.not_eq_true]; exact q)), GI102⟩
end Go.Proofs.Ytoencnbpjjkjnaa

/- What a version owns; clone, without. -/
set_option linter.unusedVariables false
set_option linter.unusedSimpArgs false
namespace Go.Proofs.Ytoencnbpjjkjnaa
open Go.RowKit Rm Gx
/-- the types that a set of dots is of -/
def shT : List TypeId := [3, 24]
/-- blocks of these types stand -/
def TkS (w w' : World) : Prop := ∀ (k : Nat) (cs : Array Value) (t : TypeId) (fr : Nat × Nat), w.heap[k]? = some (.cells cs t fr) → shT.contains t = true → w'.heap[k]? = w.heap[k]?
theorem tks_gr {w w' : World} (g : Gr w w') : TkS w w' := fun k cs t fr h _ => Below.block g k (Array.getElem?_eq_some_iff.1 h).1
theorem tks_upd {w w' : World} {b : Nat} {cs : Array Value} {t : TypeId} (u : Upd w w' b) (h : Bk w b cs t) (ht : shT.contains t = false) : TkS w w' := fun k cs' t' fr h' ht' => u.oth k (fun e => by
  subst e
  unfold Bk at h
  rw [h] at h'
  injection h' with h'
  injection h' with _ h2
  subst h2
  rw [ht] at ht'
  cases ht')
theorem tks_grown {w w' : World} {base s n : Nat} {t : TypeId} {v : Value} {xs : List Value} (h : w.ownsRow base t s v n xs) (g : w.grownBy w' v.ownBlock) (ht : shT.contains t = false) : TkS w w' := fun k cs t' fr h' ht' => g.block k (Array.getElem?_eq_some_iff.1 h').1 (fun e => by
  obtain ⟨-, ⟨rfl, -⟩ | ⟨b, cap, cur, rfl, -, hg, -⟩⟩ := h
  · cases e
  · obtain rfl : k = b := by simpa [Value.ownBlock] using e
    rw [hg] at h'
    injection h' with h'
    injection h' with _ h2
    subst h2
    rw [ht] at ht'
    cases ht')
theorem ow_tks {w w' : World} {base s n : Nat} {t : TypeId} {v : Value} {xs : List Value} (h : w.ownsRow base t s v n xs) (k : TkS w w') (ht : shT.contains t = true) : w'.ownsRow base t s v n xs := by
  obtain ⟨h1, h2 | ⟨b, cap, cur, rfl, h3, hg, h4⟩⟩ := h
  · exact ⟨h1, .inl h2⟩
  · exact ⟨h1, .inr ⟨b, cap, cur, rfl, h3, (k b cur t (0, 0) hg ht).trans hg, h4⟩⟩
theorem KnO.tks {base : Nat} {w w' : World} {k : Value} {v : List Nat} {m : List (Nat × Nat)} (h : KnO base w k v m) (q : TkS w w') : KnO base w' k v m := by
  obtain ⟨vv, mv, e, h1, h2⟩ := h
  exact ⟨vv, mv, e, ow_tks h1 q (by decide), ow_tks h2 q (by decide)⟩
/-- a version that owns its set of dots -/
def OwnVr (base : Nat) (w : World) (x : VerI) : Prop := ∃ v m, x.d.V = ints v ∧ x.d.M = pairs m ∧ KnO base w x.k v m
theorem OwnVr.tk {base : Nat} {w w' : World} {x : VerI} (h : OwnVr base w x) (k : TkS w w') : OwnVr base w' x := by
  obtain ⟨v, m, h1, h2, h3⟩ := h
  exact ⟨v, m, h1, h2, h3.tks k⟩
theorem OwnVr.mean {base : Nat} {w : World} {x : VerI} (h : OwnVr base w x) : MeanV w x := by
  obtain ⟨v, m, h1, h2, h3⟩ := h
  unfold MeanV
  rw [h1, h2]
  exact h3.rd
theorem OwnVr.base {base base' : Nat} {w : World} {x : VerI} (h : OwnVr base w x) (hb : base' ≤ base) : OwnVr base' w x := by
  obtain ⟨v, m, h1, h2, h3⟩ := h
  exact ⟨v, m, h1, h2, h3.less hb⟩
def OwnsVr (base : Nat) (w : World) (K : List VerI) : Prop := ∀ x ∈ K, OwnVr base w x
theorem OwnsVr.tk {base : Nat} {w w' : World} {K : List VerI} (h : OwnsVr base w K) (k : TkS w w') : OwnsVr base w' K := fun x hx => (h x hx).tk k
theorem OwnsVr.mean {base : Nat} {w : World} {K : List VerI} (h : OwnsVr base w K) : MeansV w K := fun x hx => (h x hx).mean
theorem OwnsVr.base {base base' : Nat} {w : World} {K : List VerI} (h : OwnsVr base w K) (hb : base' ≤ base) : OwnsVr base' w K := fun x hx => (h x hx).base hb
theorem OwnsVr.snoc {base : Nat} {w : World} {K : List VerI} {x : VerI} (h : OwnsVr base w K) (hx : OwnVr base w x) : OwnsVr base w (K ++ [x]) := fun y hy => by
  rcases List.mem_append.1 hy with hy | hy
  · exact h y hy
  · rw [List.mem_singleton.1 hy]; exact hx
theorem mem0 (s c : Nat) (i : inR s c) : memB [] [] s c = false := by
  cases q : memB [] [] s c
  · rfl
  · rw [memB_iff] at q
    simp [cv] at q
    have := i.2.1
    omega
theorem kclone (k : Value) (V : List Int) (M : List (Int × Int)) (w : World) (hk : KnR w k V M) (hc : chkK V M = 0) :
    Calls Try.prog 38 #[k, .agg #[.slice none 0 0, .slice none 0 0]] w fun e w' => ∃ va vc ma mc, e = .returned (.tuple #[.agg #[.slice va V.length vc, .slice ma M.length mc], .int .i64 0]) ∧ (∃ v m, V = ints v ∧ M = pairs m ∧ KnO w.heap.size w' (.agg #[.slice va V.length vc, .slice ma M.length mc]) v m) ∧ Gr w w' := by
  obtain ⟨v, m, rfl, rfl, ok, hl⟩ := chkK_zero hc
  have ok0 : OkV [] [] := ⟨by simp, by simp, by simp, by simp, by simp⟩
  refine (join_ok k _ v [] m [] w hk (knR_nil w) ok ok0 hl (by simp)).mono ?_
  rintro e w' ⟨h, g⟩
  have he : EqD (orD (memB v m) (memB [] [])) (memB v m) := fun s c i => by simp only [orD, mem0 s c i, Bool.or_false]
  obtain ⟨k2, h1, h2⟩ := frmK.one (h.congr he)
  obtain ⟨q1, q2⟩ := form_self ok
  unfold frE at h1
  unfold frV frM at h2
  rw [q2, if_pos hl] at h1
  rw [q2, if_pos hl, if_pos hl, q1] at h2
  obtain ⟨va, vc, ma, mc, rfl⟩ := h2.form
  exact ⟨va, vc, ma, mc, h1, ⟨v, m, rfl, rfl, h2⟩, g⟩
theorem wo_step {K R : List VerI} {p : VerI → Bool} {i : Nat} {x y : VerI} (h : R.map VerI.d = ((K.take i).filter fun x => !p x).map VerI.d) (hx : K[i]? = some x) (hp : p x = false) (hy : y.d = x.d) : (R ++ [y]).map VerI.d = ((K.take (i + 1)).filter fun x => !p x).map VerI.d := by
  rw [List.map_append, h, List.take_add_one, hx, List.filter_append, List.map_append]
  simp [hp, hy]
theorem wo_skip {K R : List VerI} {p : VerI → Bool} {i : Nat} {x : VerI} (h : R.map VerI.d = ((K.take i).filter fun x => !p x).map VerI.d) (hx : K[i]? = some x) (hp : p x = true) : R.map VerI.d = ((K.take (i + 1)).filter fun x => !p x).map VerI.d := by
  rw [h, List.take_add_one, hx, List.filter_append]
  simp [hp]
theorem ow1_tk {base : Nat} {w w' : World} {V : List Int} {M : List (Int × Int)} {k : Value} (h : ∃ v m, V = ints v ∧ M = pairs m ∧ KnO base w k v m) (q : TkS w w') : ∃ v m, V = ints v ∧ M = pairs m ∧ KnO base w' k v m := by
  obtain ⟨v, m, h1, h2, h3⟩ := h
  exact ⟨v, m, h1, h2, h3.tks q⟩
theorem ow1_le {base base' : Nat} {w : World} {V : List Int} {M : List (Int × Int)} {k : Value} (h : ∃ v m, V = ints v ∧ M = pairs m ∧ KnO base w k v m) (q : base' ≤ base) : ∃ v m, V = ints v ∧ M = pairs m ∧ KnO base' w k v m := by
  obtain ⟨v, m, h1, h2, h3⟩ := h
  exact ⟨v, m, h1, h2, h3.less q⟩
set_option maxHeartbeats 8000000 in
set_option maxRecDepth 100000 in
theorem clone_any (x : VerI) (hx : okVr x) (w : World) (hm : MeanV w x) :
    Calls Try.prog 73 #[.agg #[.string (bs x.d.id), .int .i64 (x.d.s), .int .i64 (x.d.c), .int .i64 (x.d.t), .int .i64 (x.d.n), .int .i64 (x.d.b), .slice x.va x.d.V.length x.vc, .slice x.ma x.d.M.length x.mc]] w fun e w' => ∃ y : VerI, y.d = x.d ∧ e = .returned (.agg #[.string (bs y.d.id), .int .i64 (y.d.s), .int .i64 (y.d.c), .int .i64 (y.d.t), .int .i64 (y.d.n), .int .i64 (y.d.b), .slice y.va y.d.V.length y.vc, .slice y.ma y.d.M.length y.mc]) ∧ OwnVr w.heap.size w' y ∧ Gr w w' := by
  refine enter (N := 12) Try.func73 rfl rfl rfl (fun a0 ok0 h0 => ?_)
  have e0_0 : a0.eval (.tmp 0) = .agg #[.string (bs x.d.id), .int .i64 (x.d.s), .int .i64 (x.d.c), .int .i64 (x.d.t), .int .i64 (x.d.n), .int .i64 (x.d.b), .slice x.va x.d.V.length x.vc, .slice x.ma x.d.M.length x.mc] := h0 0 _ rfl
  clear h0
  have G0 := Gr.refl w
  refine wp_seq_k (fun K1 hK1 => ?_)
  refine wp_region_lit ?_
  refine sal (cs := #[.string (bs x.d.id), .int .i64 (x.d.s), .int .i64 (x.d.c), .int .i64 (x.d.t), .int .i64 (x.d.n), .int .i64 (x.d.b), .slice x.va x.d.V.length x.vc, .slice x.ma x.d.M.length x.mc]) ok0 rfl (wn _ rfl) rfl (o_box e0_0) (fun an2 w4 b3 W5 n2 => ?_)
  have l6 : w.heap.size ≤ b3 := by rw [W5.eq]; exact G0.size
  have G7 := G0.trans W5.gr
  refine sal (cs := #[.string (bs []), .int .i64 0, .int .i64 0, .int .i64 0, .int .i64 0, .int .i64 0, .slice none 0 0, .slice none 0 0]) n2.ok rfl (wn _ rfl) rfl (o_al (z := .agg #[.string (bs []), .int .i64 0, .int .i64 0, .int .i64 0, .int .i64 0, .int .i64 0, .slice none 0 0, .slice none 0 0]) (by kernel_rfl)) (fun an8 w10 b9 W11 n8 => ?_)
  have l12 : b3 < b9 := by rw [W11.eq]; exact W5.bk.lt
  have l13 : w.heap.size ≤ b9 := by rw [W11.eq]; exact G7.size
  have G14 := G7.trans W11.gr
  have B15 := W5.bk.gr W11.gr
  refine wpList_nil ?_
  refine th_n (hK1 _ _ ?_)
  refine wp_seq_k (fun K16 hK16 => ?_)
  refine wp_region_lit ?_
  refine sv n8.ok rfl (wn _ rfl) rfl (o_fa (z := 2) (n8.ne rfl n2.at_) Try.underlying32 rfl (by kernel_rfl) rfl rfl) (fun an17 n17 => ?_)
  refine sv n17.ok rfl (wn _ rfl) rfl (o_ldA (k := 6) (cs := [.slice x.va x.d.V.length x.vc, .slice x.ma x.d.M.length x.mc]) n17.at_ (bk_part B15 rfl) Try.underlying30 rfl (by kernel_rfl)) (fun an18 n18 => ?_)
  refine sv n18.ok rfl (wn _ rfl) rfl (o_b0 (cs := #[.slice none 0 0, .slice none 0 0]) Try.underlying30 (by kernel_rfl) (by kernel_rfl)) (fun an19 n19 => ?_)
  refine sc n19.ok rfl (wn _ rfl) rfl (o_f2 Try.func38 rfl rfl rfl (n19.ne rfl n18.at_) n19.at_) (kclone _ x.d.V x.d.M w10 (MeanV.gr hm G14) (chkOne_zero hx).2.2.1) ?_
  rintro _ w21 ⟨va1, vc1, ma1, mc1, rfl, hk1, g22⟩
  have hk2 := ow1_le hk1 G14.size
  refine ⟨_, rfl, fun an20 n20 => ?_⟩
  have G23 := G14.trans g22
  have B24 := B15.gr g22
  have B25 := W11.bk.gr g22
  refine sv n20.ok rfl (wn _ rfl) rfl (o_mv n20.at_) (fun an26 n26 => ?_)
  refine sv n26.ok rfl (wn _ rfl) rfl (o_ex n26.at_ rfl) (fun an27 n27 => ?_)
  refine sv n27.ok rfl (wn _ rfl) rfl (o_ex (n27.ne rfl n26.at_) rfl) (fun an28 n28 => ?_)
  have e29 := n28.ne rfl (n27.ne rfl (n26.ne rfl (n20.ne rfl (n19.ne rfl (n18.ne rfl (n17.ne rfl (n8.ne rfl n2.at_)))))))
  refine sv n28.ok rfl (wn _ rfl) rfl (o_fa (z := 2) e29 Try.underlying32 rfl (by kernel_rfl) rfl rfl) (fun an30 n30 => ?_)
  refine ssP (vs := [.slice va1 x.d.V.length vc1, .slice ma1 x.d.M.length mc1]) (cs' := #[.string (bs x.d.id), .int .i64 (x.d.s), .int .i64 (x.d.c), .int .i64 (x.d.t), .int .i64 (x.d.n), .int .i64 (x.d.b), .slice va1 x.d.V.length vc1, .slice ma1 x.d.M.length mc1]) (wn _ rfl) n30.at_ (n30.ne rfl (n28.ne rfl n27.at_)) (by kernel_rfl) B24 rfl (by simp [Value.oneCell']) rfl (fun w31 u32 u32b => ?_)
  have G33 : Gr w w31 := Below.upd G23 l6 u32
  have B34 := B25.upd u32 (Nat.ne_of_gt l12)
  have F35 := ow1_tk hk2 (tks_upd u32 B24 (by decide))
  refine wpList_nil ?_
  refine th_n (hK16 _ _ ?_)
  refine wp_seq_k (fun K36 hK36 => ?_)
  refine wp_region_lit ?_
  refine sv n30.ok rfl (wn _ rfl) rfl (o_ldR (n30.ne rfl e29) u32b Try.underlying32 rfl (by kernel_rfl)) (fun an37 n37 => ?_)
  have e38 := n37.ne rfl (n30.ne rfl (n28.ne rfl (n27.ne rfl (n26.ne rfl (n20.ne rfl (n19.ne rfl (n18.ne rfl (n17.ne rfl n8.at_))))))))
  refine ssR rfl (wn _ rfl) (o_stR e38 n37.at_ B34 (by kernel_rfl) rfl (by simp [Value.oneCell'])) B34 (fun w39 u40 u40b => ?_)
  have G41 : Gr w w39 := Below.upd G33 l13 u40
  have B42 := u32b.upd u40 (Nat.ne_of_lt l12)
  have F43 := ow1_tk F35 (tks_upd u40 B34 (by decide))
  refine wpList_nil ?_
  refine th_n (hK36 _ _ ?_)
  refine wp_ret ?_
  exact ret1 n37.ok rfl (⟨_, _, e38, ld_row u40b Try.underlying32 rfl (by kernel_rfl)⟩) ⟨⟨x.d, va1, vc1, ma1, mc1⟩, rfl, rfl, F43, G41⟩
set_option maxHeartbeats 8000000 in
set_option maxRecDepth 100000 in
theorem without_any (K : List VerI) (va : Option Addr) (vc : Nat) (f : FuncId) (caps : List Value) (p : VerI → Bool) (hf : FnOk Try.prog f) (hl : K.length ≤ 1000) (hok : ∀ x ∈ K, okVr x) (w : World) (hv : RdA encVr 8 w va K) (hm : MeansV w K) (hc : ∀ x ∈ K, ∀ w1, Gr w w1 → Calls Try.prog f (.agg #[.string (bs x.d.id), .int .i64 (x.d.s), .int .i64 (x.d.c), .int .i64 (x.d.t), .int .i64 (x.d.n), .int .i64 (x.d.b), .slice x.va x.d.V.length x.vc, .slice x.ma x.d.M.length x.mc] :: caps).toArray w1 fun e w2 => e = .returned (.bool (p x)) ∧ Gr w1 w2) :
    Calls Try.prog 42 #[.slice va K.length vc, .func (.func f) #[] caps.toArray] w fun e w' => ∃ (R : List VerI) (v : Value), e = .returned v ∧ R.map VerI.d = (K.filter fun x => !p x).map VerI.d ∧ w'.ownsRow w.heap.size 32 8 v R.length (flatE encVr R) ∧ OwnsVr w.heap.size w' R ∧ Gr w w' := by
  refine enter (N := 25) Try.func42 rfl rfl rfl (fun a0 ok0 h0 => ?_)
  have e0_0 : a0.eval (.tmp 0) = .slice va K.length vc := h0 0 _ rfl
  have e0_1 : a0.eval (.tmp 1) = .func (.func f) #[] caps.toArray := h0 1 _ rfl
  clear h0
  have G0 := Gr.refl w
  obtain ⟨base, z1⟩ : ∃ n, n = w.heap.size := ⟨_, rfl⟩
  have l2 : w.heap.size ≤ base := by rw [z1]; exact G0.size
  have z3 : base ≤ w.heap.size := Nat.le_of_eq z1
  have O4 := World.ownsRow_nil w base 32 8
  have hps : OwnsVr base w ([] : List VerI) := fun x hx => by cases hx
  refine wp_seq_k (fun K5 hK5 => ?_)
  refine wp_region_lit ?_
  refine sv ok0 rfl (wn _ rfl) rfl (o_as ev_const) (fun an6 n6 => ?_)
  refine wpList_nil ?_
  refine th_n (hK5 _ _ ?_)
  refine wp_seq_k (fun K7 hK7 => ?_)
  refine wp_region_lit ?_
  refine sv n6.ok rfl (wn _ rfl) rfl (o_as ev_const) (fun an8 n8 => ?_)
  refine wpList_nil ?_
  refine th_n (hK7 _ _ ?_)
  refine wp_seq_k (fun K9 hK9 => ?_)
  refine wp_seq_k (fun K10 hK10 => ?_)
  refine wp_region_lit ?_
  refine sv n8.ok rfl (wn _ rfl) rfl (o_mv (n8.ne rfl (n6.ne rfl e0_0))) (fun an11 n11 => ?_)
  refine sv n11.ok rfl (wn _ rfl) rfl (o_len n11.at_ Try.underlying22) (fun an12 n12 => ?_)
  refine sv n12.ok rfl (wn _ rfl) rfl (o_mv ev_const) (fun an13 n13 => ?_)
  refine wpList_nil ?_
  refine th_n (hK10 _ _ ?_)
  refine wp_block ?_
  have e15 := n13.ne rfl (n12.ne rfl (n11.ne rfl (n8.ne rfl (n6.ne rfl e0_1))))
  have e16 := n13.ne rfl (n12.ne rfl (n11.ne rfl (n8.ne rfl n6.at_)))
  have e17 := n13.ne rfl (n12.ne rfl (n11.ne rfl n8.at_))
  refine lp (fun (nL : Nat) (aL : Act) (wL : World) => ∃ i : Nat, ∃ R : List VerI, ∃ ra : Option Addr, ∃ rc : Nat, nL = K.length - i ∧ Ok 25 aL ∧ Gr w wL ∧ (aL.eval (.tmp 1) = .func (.func f) #[] caps.toArray) ∧ (aL.eval (.tmp 4) = .slice none 0 0) ∧ (aL.eval (.tmp 5) = .slice ra (R.length) rc) ∧ (aL.eval (.tmp 8) = .slice va K.length vc) ∧ (aL.eval (.tmp 9) = .int .i64 ((K.length : Nat) : Int)) ∧ (aL.eval (.tmp 10) = .int .i64 (i : Int)) ∧ (OwnsVr base wL R) ∧ (World.ownsRow wL base 32 8 (.slice ra (R.length) rc) (R.length) ((flatE encVr R))) ∧ (base ≤ wL.heap.size) ∧ (i ≤ K.length) ∧ (R.map VerI.d = ((K.take i).filter fun x => !p x).map VerI.d)) _ ⟨0, [], none, 0, rfl, n13.ok, G0, e15, e16, e17, (n13.ne rfl (n12.ne rfl n11.at_)), (n13.ne rfl n12.at_), n13.at_, hps, O4, z3, by omega, rfl⟩ ?_
  rintro m18 aI14 w20 ⟨i, R, ra, rc, hmI14, okI14, GI14, s1I14, s4I14, s5I14, s8I14, s9I14, s10I14, fpsI14, orI14, zbaseI14, hiI14, hRI14⟩ KI14 hKI14
  have hRlI14 : R.length ≤ i := by
    have h1 := congrArg List.length hRI14
    rw [List.length_map, List.length_map] at h1
    have h2 := List.length_filter_le (fun x => !p x) (K.take i)
    rw [List.length_take] at h2
    omega
  refine wp_seq_k (fun K21 hK21 => ?_)
  refine wp_region_lit ?_
  refine sv okI14 rfl (wn _ rfl) rfl (o_ltI s10I14 s9I14) (fun an22 n22 => ?_)
  refine wpList_nil ?_
  refine th_n (hK21 _ _ ?_)
  refine wp_seq_k (fun K23 hK23 => ?_)
  by_cases c24 : (i : Int) < ((K.length : Nat) : Int)
  · refine wp_cond_true ((n22.at_).trans (congrArg Value.bool (decide_eq_true c24))) ?_
    refine wp_skip ?_
    refine th_n (hK23 _ _ ?_)
    refine wp_seq_k (fun K25 hK25 => ?_)
    refine wp_block ?_
    refine wp_seq_k (fun K26 hK26 => ?_)
    refine wp_region_lit ?_
    have h27l : i < List.length K := by omega
    obtain ⟨bh27, fh27, h27a, h27b, h27c⟩ := hv (ne_nil_of_lt h27l)
    obtain ⟨xh27, h27x⟩ : ∃ x, (K)[i]? = some x := ⟨_, List.getElem?_eq_getElem h27l⟩
    refine sv n22.ok rfl (wn _ rfl) rfl (o_iaV (i := i) (s := 8) h27a (n22.ne rfl s8I14) (n22.ne rfl s10I14) Try.underlying22 (by kernel_rfl) h27l) (fun an28 n28 => ?_)
    refine sv n28.ok rfl (wn _ rfl) rfl (o_ldA (k := fh27 + i * 8) n28.at_ (cs := [.string (bs xh27.d.id), .int .i64 (xh27.d.s), .int .i64 (xh27.d.c), .int .i64 (xh27.d.t), .int .i64 (xh27.d.n), .int .i64 (xh27.d.b), .slice xh27.va xh27.d.V.length xh27.vc, .slice xh27.ma xh27.d.M.length xh27.mc]) (fun j v hv => (Below.cell GI14 h27b).trans (h27c _ _ h27x j v hv)) Try.underlying32 rfl (by kernel_rfl)) (fun an29 n29 => ?_)
    refine sal (cs := #[.string (bs []), .int .i64 0, .int .i64 0, .int .i64 0, .int .i64 0, .int .i64 0, .slice none 0 0, .slice none 0 0]) n29.ok rfl (wn _ rfl) rfl (o_al (z := .agg #[.string (bs []), .int .i64 0, .int .i64 0, .int .i64 0, .int .i64 0, .int .i64 0, .slice none 0 0, .slice none 0 0]) (by kernel_rfl)) (fun an30 w32 b31 W33 n30 => ?_)
    have l34 : w.heap.size ≤ b31 := by rw [W33.eq]; exact GI14.size
    have l35 : ∀ k, Value.ownBlock (.slice ra (R.length) rc) = some k → k < b31 := fun k e => by rw [W33.eq]; exact ow_in orI14 k e
    have G36 := GI14.trans W33.gr
    have z37 := Nat.le_trans zbaseI14 W33.gr.size
    have O38 := ow_gr orI14 W33.gr
    have F39 := fpsI14.tk (tks_gr W33.gr)
    refine ssR rfl (wn _ rfl) (o_stR n30.at_ (n30.ne rfl n29.at_) W33.bk (by kernel_rfl) rfl (by simp [Value.oneCell'])) W33.bk (fun w40 u41 u41b => ?_)
    have G42 : Gr w w40 := Below.upd G36 l34 u41
    have z43 : base ≤ w40.heap.size := by rw [u41.size]; exact z37
    have O44 := ow_upd_ne O38 u41 l35
    have F45 := F39.tk (tks_upd u41 W33.bk (by decide))
    refine wpList_nil ?_
    refine th_n (hK26 _ _ ?_)
    refine wp_seq_k (fun K46 hK46 => ?_)
    refine wp_region_lit ?_
    have e47 := n30.ne rfl (n29.ne rfl (n28.ne rfl (n22.ne rfl s1I14)))
    refine sv n30.ok rfl (wn _ rfl) rfl (o_mv e47) (fun an48 n48 => ?_)
    refine sv n48.ok rfl (wn _ rfl) rfl (o_ldR (n48.ne rfl n30.at_) u41b Try.underlying32 rfl (by kernel_rfl)) (fun an49 n49 => ?_)
    refine sc n49.ok rfl (wn _ rfl) rfl (o_fv1 (caps := caps) hf (n49.ne rfl n48.at_) n49.at_) (hc _ (List.mem_of_getElem? h27x) w40 G42) ?_
    rintro _ w51 ⟨rfl, g52⟩
    refine ⟨_, rfl, fun an50 n50 => ?_⟩
    have G53 := G42.trans g52
    have B54 := u41b.gr g52
    have z55 := Nat.le_trans z43 g52.size
    have O56 := ow_gr O44 g52
    have F57 := F45.tk (tks_gr g52)
    refine sv n50.ok rfl (wn _ rfl) rfl (o_notI n50.at_) (fun an58 n58 => ?_)
    refine wpList_nil ?_
    refine th_n (hK46 _ _ ?_)
    cases c59 : (!(p xh27))
    · refine wp_cond_false ((n58.at_).trans (congrArg Value.bool (c59))) ?_
      refine wp_skip ?_
      refine ib_n ?_
      refine th_n (hK25 _ _ ?_)
      refine wp_region_lit ?_
      have e60 := n58.ne rfl (n50.ne rfl (n49.ne rfl (n48.ne rfl (n30.ne rfl (n29.ne rfl (n28.ne rfl (n22.ne rfl s10I14)))))))
      refine sv n58.ok rfl (wn _ rfl) rfl (o_add (r := ((i + 1 : Nat) : Int)) e60 ev_const (by omega) (by omega)) (fun an61 n61 => ?_)
      refine sv n61.ok rfl (wn _ rfl) rfl (o_mv n61.at_) (fun an62 n62 => ?_)
      refine wpList_nil ?_
      have e63 := n62.ne rfl (n61.ne rfl (n58.ne rfl (n50.ne rfl (n49.ne rfl (n48.ne rfl e47)))))
      have e64 := n62.ne rfl (n61.ne rfl (n58.ne rfl (n50.ne rfl (n49.ne rfl (n48.ne rfl (n30.ne rfl (n29.ne rfl (n28.ne rfl (n22.ne rfl s4I14)))))))))
      have e65 := n62.ne rfl (n61.ne rfl (n58.ne rfl (n50.ne rfl (n49.ne rfl (n48.ne rfl (n30.ne rfl (n29.ne rfl (n28.ne rfl (n22.ne rfl s5I14)))))))))
      have e66 := n62.ne rfl (n61.ne rfl (n58.ne rfl (n50.ne rfl (n49.ne rfl (n48.ne rfl (n30.ne rfl (n29.ne rfl (n28.ne rfl (n22.ne rfl s8I14)))))))))
      have e67 := n62.ne rfl (n61.ne rfl (n58.ne rfl (n50.ne rfl (n49.ne rfl (n48.ne rfl (n30.ne rfl (n29.ne rfl (n28.ne rfl (n22.ne rfl s9I14)))))))))
      exact th_n (hKI14 _ _ _ (by omega) ⟨i + 1, R, ra, rc, rfl, n62.ok, G53, e63, e64, e65, e66, e67, n62.at_, F57, O56, z55, by omega, wo_skip hRI14 h27x (by simpa using c59)⟩)
    · refine wp_cond_true ((n58.at_).trans (congrArg Value.bool (c59))) ?_
      refine wp_region_lit ?_
      have e68 := n58.ne rfl (n50.ne rfl (n49.ne rfl (n48.ne rfl (n30.ne rfl (n29.ne rfl (n28.ne rfl (n22.ne rfl s5I14)))))))
      refine sv n58.ok rfl (wn _ rfl) rfl (o_mv e68) (fun an69 n69 => ?_)
      have e70 := n69.ne rfl (n58.ne rfl (n50.ne rfl (n49.ne rfl (n48.ne rfl n30.at_))))
      refine sv n69.ok rfl (wn _ rfl) rfl (o_ldR e70 B54 Try.underlying32 rfl (by kernel_rfl)) (fun an71 n71 => ?_)
      refine sc n71.ok rfl (wn _ rfl) rfl (o_f1 Try.func73 rfl rfl rfl n71.at_) (clone_any xh27 (hok _ (List.mem_of_getElem? h27x)) w51 ((hm _ (List.mem_of_getElem? h27x)).gr G53)) ?_
      rintro _ w73 ⟨y1, hy1, rfl, hk1, g74⟩
      refine ⟨_, rfl, fun an72 n72 => ?_⟩
      have G75 := G53.trans g74
      have B76 := B54.gr g74
      have z77 := Nat.le_trans z55 g74.size
      have O78 := ow_gr O56 g74
      have F79 := F57.tk (tks_gr g74)
      obtain ⟨i80, i80a, i80b, i80c⟩ := info3_of (show (Try.prog.info? 32).map (fun i => (i.zero, i.size)) = some (some (.agg #[.string (bs []), .int .i64 0, .int .i64 0, .int .i64 0, .int .i64 0, .int .i64 0, .slice none 0 0, .slice none 0 0]), 8) by kernel_rfl)
      refine sals (cs := #[.string (bs y1.d.id), .int .i64 (y1.d.s), .int .i64 (y1.d.c), .int .i64 (y1.d.t), .int .i64 (y1.d.n), .int .i64 (y1.d.b), .slice y1.va y1.d.V.length y1.vc, .slice y1.ma y1.d.M.length y1.mc]) n72.ok rfl (wn _ rfl) rfl (o_bs (vs := [(0, .agg #[.string (bs y1.d.id), .int .i64 (y1.d.s), .int .i64 (y1.d.c), .int .i64 (y1.d.t), .int .i64 (y1.d.n), .int .i64 (y1.d.b), .slice y1.va y1.d.V.length y1.vc, .slice y1.ma y1.d.M.length y1.mc])]) (by simp [n72.at_, ev_const]) Try.underlying22 i80a i80b (by rw [i80c]; rfl) (by rw [i80c]; rfl) (by rw [i80c]; kernel_rfl)) (fun an81 w83 b82 W84 n81 => ?_)
      have l85 : b31 < b82 := by rw [W84.eq]; exact B76.lt
      have l86 : w.heap.size ≤ b82 := by rw [W84.eq]; exact G75.size
      have l87 : ∀ k, Value.ownBlock (.slice ra (R.length) rc) = some k → k < b82 := fun k e => by rw [W84.eq]; exact ow_in O78 k e
      have G88 := G75.trans W84.gr
      have B89 := B76.gr W84.gr
      have z90 := Nat.le_trans z77 W84.gr.size
      have O91 := ow_gr O78 W84.gr
      have F92 := F79.tk (tks_gr W84.gr)
      have F93 := (hk1.base (Nat.le_trans z55 (Nat.le_refl _))).tk (tks_gr W84.gr)
      have e94 := n81.ne rfl (n72.ne rfl (n71.ne rfl n69.at_))
      obtain ⟨i95, i95a, i95b, i95c, i95d⟩ := info_of (show (Try.prog.info? 32).map (fun i => (i.zero, i.size, i.bytes)) = some (some (.agg #[.string (bs []), .int .i64 0, .int .i64 0, .int .i64 0, .int .i64 0, .int .i64 0, .slice none 0 0, .slice none 0 0]), 8, 104) by kernel_rfl)
      refine s_app (base := base) (n := R.length) (xs := (flatE encVr R)) (m := 1) (news := encVr y1) n81.ok (wn _ rfl) rfl Try.underlying22 i95a i95b i95c i95d rfl (by omega) e94 O91 n81.at_ rfl ((fun j u hu => by rw [add_n]; exact bk_part W84.bk (k := 0) rfl j u hu)) (encVr_ok.one y1) (by simp only [maxLen]; omega) (by omega) z90 (fun an96 w97 v98 O101 gg102 n96 => ?_)
      obtain ⟨a99, c100, rfl, c100l⟩ := ow_form O101
      have G103 := Gr.grown G88 gg102 (fun k e => Nat.le_trans l2 (ow_lt O91 k e))
      have B104 := B89.grown_ne gg102 l35
      have B105 := W84.bk.grown_ne gg102 l87
      have z106 := Nat.le_trans z90 gg102.size
      have F107 := F92.tk (tks_grown O91 gg102 (by decide))
      have F108 := F93.tk (tks_grown O91 gg102 (by decide))
      have O109 : w97.ownsRow base 32 8 (.slice a99 ((R.length + 1)) c100) ((R.length + 1)) ((flatE encVr (R ++ [y1]))) := by have h := O101; rw [← flatE_one (enc := encVr) y1, ← flatE_app] at h; exact h
      have hps110 := F107.snoc F108
      refine sv n96.ok rfl (wn _ rfl) rfl (o_as n96.at_) (fun an111 n111 => ?_)
      refine wpList_nil ?_
      refine ib_n ?_
      refine th_n (hK25 _ _ ?_)
      refine wp_region_lit ?_
      have e112 := n111.ne rfl (n96.ne rfl (n81.ne rfl (n72.ne rfl (n71.ne rfl (n69.ne rfl (n58.ne rfl (n50.ne rfl (n49.ne rfl (n48.ne rfl (n30.ne rfl (n29.ne rfl (n28.ne rfl (n22.ne rfl s10I14)))))))))))))
      refine sv n111.ok rfl (wn _ rfl) rfl (o_add (r := ((i + 1 : Nat) : Int)) e112 ev_const (by omega) (by omega)) (fun an113 n113 => ?_)
      refine sv n113.ok rfl (wn _ rfl) rfl (o_mv n113.at_) (fun an114 n114 => ?_)
      refine wpList_nil ?_
      have e115 := n114.ne rfl (n113.ne rfl (n111.ne rfl (n96.ne rfl (n81.ne rfl (n72.ne rfl (n71.ne rfl (n69.ne rfl (n58.ne rfl (n50.ne rfl (n49.ne rfl (n48.ne rfl e47)))))))))))
      have e116 := n114.ne rfl (n113.ne rfl (n111.ne rfl (n96.ne rfl (n81.ne rfl (n72.ne rfl (n71.ne rfl (n69.ne rfl (n58.ne rfl (n50.ne rfl (n49.ne rfl (n48.ne rfl (n30.ne rfl (n29.ne rfl (n28.ne rfl (n22.ne rfl s4I14)))))))))))))))
      have e117 := n114.ne rfl (n113.ne rfl (n111.ne rfl (n96.ne rfl (n81.ne rfl (n72.ne rfl (n71.ne rfl (n69.ne rfl (n58.ne rfl (n50.ne rfl (n49.ne rfl (n48.ne rfl (n30.ne rfl (n29.ne rfl (n28.ne rfl (n22.ne rfl s8I14)))))))))))))))
      have e118 := n114.ne rfl (n113.ne rfl (n111.ne rfl (n96.ne rfl (n81.ne rfl (n72.ne rfl (n71.ne rfl (n69.ne rfl (n58.ne rfl (n50.ne rfl (n49.ne rfl (n48.ne rfl (n30.ne rfl (n29.ne rfl (n28.ne rfl (n22.ne rfl s9I14)))))))))))))))
      exact th_n (hKI14 _ _ _ (by omega) ⟨i + 1, R ++ [y1], a99, c100, rfl, n114.ok, G103, e115, e116, (by simpa using (n114.ne rfl (n113.ne rfl n111.at_))), e117, e118, n114.at_, hps110, (by simpa using O109), z106, by omega, wo_step hRI14 h27x (by simpa using c59) hy1⟩)
  · refine wp_cond_false ((n22.at_).trans (congrArg Value.bool (decide_eq_false c24))) ?_
    refine wp_exit ?_
    refine th_x ?_
    refine th_x ?_
    refine ib_x ?_
    refine th_n (hK9 _ _ ?_)
    refine wp_seq_k (fun K119 hK119 => ?_)
    refine wp_region_lit ?_
    refine sv n22.ok rfl (wn _ rfl) rfl (o_mv (n22.ne rfl s5I14)) (fun an120 n120 => ?_)
    refine sv n120.ok rfl (wn _ rfl) rfl (o_as n120.at_) (fun an121 n121 => ?_)
    refine wpList_nil ?_
    refine th_n (hK119 _ _ ?_)
    refine wp_ret ?_
    exact ret1 n121.ok rfl (n121.at_) ⟨R, _, rfl, by rw [hRI14, List.take_of_length_le (by omega)], z1 ▸ orI14, z1 ▸ fpsI14, GI14⟩
set_option maxHeartbeats 8000000 in
set_option maxRecDepth 100000 in
theorem never_any (x : VerI) (w : World) :
    Calls Try.prog 71 #[.agg #[.string (bs x.d.id), .int .i64 (x.d.s), .int .i64 (x.d.c), .int .i64 (x.d.t), .int .i64 (x.d.n), .int .i64 (x.d.b), .slice x.va x.d.V.length x.vc, .slice x.ma x.d.M.length x.mc]] w fun e w' => e = .returned (.bool false) ∧ Gr w w' := by
  refine enter (N := 3) Try.func71 rfl rfl rfl (fun a0 ok0 h0 => ?_)
  have e0_0 : a0.eval (.tmp 0) = .agg #[.string (bs x.d.id), .int .i64 (x.d.s), .int .i64 (x.d.c), .int .i64 (x.d.t), .int .i64 (x.d.n), .int .i64 (x.d.b), .slice x.va x.d.V.length x.vc, .slice x.ma x.d.M.length x.mc] := h0 0 _ rfl
  clear h0
  have G0 := Gr.refl w
  refine wp_seq_k (fun K1 hK1 => ?_)
  refine wp_region_lit ?_
  refine sal (cs := #[.string (bs x.d.id), .int .i64 (x.d.s), .int .i64 (x.d.c), .int .i64 (x.d.t), .int .i64 (x.d.n), .int .i64 (x.d.b), .slice x.va x.d.V.length x.vc, .slice x.ma x.d.M.length x.mc]) ok0 rfl (wn _ rfl) rfl (o_box e0_0) (fun an2 w4 b3 W5 n2 => ?_)
  have l6 : w.heap.size ≤ b3 := by rw [W5.eq]; exact G0.size
  have G7 := G0.trans W5.gr
  refine sv n2.ok rfl (wn _ rfl) rfl (o_as ev_const) (fun an8 n8 => ?_)
  refine wpList_nil ?_
  refine th_n (hK1 _ _ ?_)
  refine wp_seq_k (fun K9 hK9 => ?_)
  refine wp_region_lit ?_
  refine sv n8.ok rfl (wn _ rfl) rfl (o_as ev_const) (fun an10 n10 => ?_)
  refine wpList_nil ?_
  refine th_n (hK9 _ _ ?_)
  refine wp_ret ?_
  exact ret1 n10.ok rfl (n10.at_) ⟨rfl, G7⟩
set_option maxHeartbeats 8000000 in
set_option maxRecDepth 100000 in
theorem get1_any (x : VerI) (b : Nat) (l : List UInt8) (w : World) (hb : Bk w b #[.string (bs l)] 9) :
    Calls Try.prog 43 #[.agg #[.string (bs x.d.id), .int .i64 (x.d.s), .int .i64 (x.d.c), .int .i64 (x.d.t), .int .i64 (x.d.n), .int .i64 (x.d.b), .slice x.va x.d.V.length x.vc, .slice x.ma x.d.M.length x.mc], .pointer (some ⟨b, 0, none⟩)] w fun e w' => e = .returned (.bool (decide (¬ x.d.id = l))) ∧ Gr w w' := by
  refine enter (N := 8) Try.func43 rfl rfl rfl (fun a0 ok0 h0 => ?_)
  have e0_0 : a0.eval (.tmp 0) = .agg #[.string (bs x.d.id), .int .i64 (x.d.s), .int .i64 (x.d.c), .int .i64 (x.d.t), .int .i64 (x.d.n), .int .i64 (x.d.b), .slice x.va x.d.V.length x.vc, .slice x.ma x.d.M.length x.mc] := h0 0 _ rfl
  have e0_1 : a0.eval (.tmp 1) = .pointer (some ⟨b, 0, none⟩) := h0 1 _ rfl
  clear h0
  have G0 := Gr.refl w
  refine wp_seq_k (fun K1 hK1 => ?_)
  refine wp_region_lit ?_
  refine sal (cs := #[.string (bs x.d.id), .int .i64 (x.d.s), .int .i64 (x.d.c), .int .i64 (x.d.t), .int .i64 (x.d.n), .int .i64 (x.d.b), .slice x.va x.d.V.length x.vc, .slice x.ma x.d.M.length x.mc]) ok0 rfl (wn _ rfl) rfl (o_box e0_0) (fun an2 w4 b3 W5 n2 => ?_)
  have l6 : b < b3 := by rw [W5.eq]; exact hb.lt
  have l7 : w.heap.size ≤ b3 := by rw [W5.eq]; exact G0.size
  have G8 := G0.trans W5.gr
  have B9 := hb.gr W5.gr
  refine sv n2.ok rfl (wn _ rfl) rfl (o_as ev_const) (fun an10 n10 => ?_)
  refine wpList_nil ?_
  refine th_n (hK1 _ _ ?_)
  refine wp_seq_k (fun K11 hK11 => ?_)
  refine wp_region_lit ?_
  refine sv n10.ok rfl (wn _ rfl) rfl (o_fa (z := 1) (n10.ne rfl n2.at_) Try.underlying32 rfl (by kernel_rfl) rfl rfl) (fun an12 n12 => ?_)
  refine sv n12.ok rfl (wn _ rfl) rfl (o_ld n12.at_ (Try.isAgg9 _) (W5.bk.cell _ rfl)) (fun an13 n13 => ?_)
  have e14 := n13.ne rfl (n12.ne rfl (n10.ne rfl (n2.ne rfl e0_1)))
  refine sv n13.ok rfl (wn _ rfl) rfl (o_ld e14 (Try.isAgg9 _) (B9.cell _ rfl)) (fun an15 n15 => ?_)
  refine sv n15.ok rfl (wn _ rfl) rfl (o_neS (n15.ne rfl n13.at_) n15.at_) (fun an16 n16 => ?_)
  refine sv n16.ok rfl (wn _ rfl) rfl (o_as n16.at_) (fun an17 n17 => ?_)
  refine wpList_nil ?_
  refine th_n (hK11 _ _ ?_)
  refine wp_ret ?_
  exact ret1 n17.ok rfl (n17.at_) ⟨rfl, G8⟩
set_option maxHeartbeats 8000000 in
set_option maxRecDepth 100000 in
theorem put1_any (x y : VerI) (b : Nat) (hx : okVr x) (hy : okVr y) (w : World) (hm : MeanV w x) (hb : Bk w b #[.string (bs y.d.id), .int .i64 (y.d.s), .int .i64 (y.d.c), .int .i64 (y.d.t), .int .i64 (y.d.n), .int .i64 (y.d.b), .slice y.va y.d.V.length y.vc, .slice y.ma y.d.M.length y.mc] 32) :
    Calls Try.prog 70 #[.agg #[.string (bs x.d.id), .int .i64 (x.d.s), .int .i64 (x.d.c), .int .i64 (x.d.t), .int .i64 (x.d.n), .int .i64 (x.d.b), .slice x.va x.d.V.length x.vc, .slice x.ma x.d.M.length x.mc], .pointer (some ⟨b, 0, none⟩)] w fun e w' => e = .returned (.bool (ovB x.d y.d)) ∧ Gr w w' := by
  refine enter (N := 8) Try.func70 rfl rfl rfl (fun a0 ok0 h0 => ?_)
  have e0_0 : a0.eval (.tmp 0) = .agg #[.string (bs x.d.id), .int .i64 (x.d.s), .int .i64 (x.d.c), .int .i64 (x.d.t), .int .i64 (x.d.n), .int .i64 (x.d.b), .slice x.va x.d.V.length x.vc, .slice x.ma x.d.M.length x.mc] := h0 0 _ rfl
  have e0_1 : a0.eval (.tmp 1) = .pointer (some ⟨b, 0, none⟩) := h0 1 _ rfl
  clear h0
  have G0 := Gr.refl w
  refine wp_seq_k (fun K1 hK1 => ?_)
  refine wp_region_lit ?_
  refine sal (cs := #[.string (bs x.d.id), .int .i64 (x.d.s), .int .i64 (x.d.c), .int .i64 (x.d.t), .int .i64 (x.d.n), .int .i64 (x.d.b), .slice x.va x.d.V.length x.vc, .slice x.ma x.d.M.length x.mc]) ok0 rfl (wn _ rfl) rfl (o_box e0_0) (fun an2 w4 b3 W5 n2 => ?_)
  have l6 : b < b3 := by rw [W5.eq]; exact hb.lt
  have l7 : w.heap.size ≤ b3 := by rw [W5.eq]; exact G0.size
  have G8 := G0.trans W5.gr
  have B9 := hb.gr W5.gr
  refine sv n2.ok rfl (wn _ rfl) rfl (o_as ev_const) (fun an10 n10 => ?_)
  refine wpList_nil ?_
  refine th_n (hK1 _ _ ?_)
  refine wp_seq_k (fun K11 hK11 => ?_)
  refine reg_start (N := 8) (m := 5) (by kernel_rfl) (fun R120 => ?_)
  have R121 := R120.snoc (n' := 1) rfl (fun vJ _ => vJ = .agg #[.string (bs x.d.id), .int .i64 (x.d.s), .int .i64 (x.d.c), .int .i64 (x.d.t), .int .i64 (x.d.n), .int .i64 (x.d.b), .slice x.va x.d.V.length x.vc, .slice x.ma x.d.M.length x.mc]) rfl (fun _ _ _ _ h => h) (fun aS wS pS => by
      exact Does.val (wn _ rfl) (o_ldR ((pS.old 2 rfl).trans (n10.ne rfl n2.at_)) (Bk.gr W5.bk (gr_drew pS.gr)) Try.underlying32 rfl (by kernel_rfl)) (Gr.refl _) rfl rfl)
  have R122 := R121.snoc (n' := 2) rfl (fun vJ wJ => ∃ (cS : Nat), vJ = .func (.func 90) #[] #[.pointer (some ⟨cS, 0, none⟩)] ∧ (Bk wJ cS #[.string (bs x.d.id), .int .i64 (x.d.s), .int .i64 (x.d.c), .int .i64 (x.d.t), .int .i64 (x.d.n), .int .i64 (x.d.b), .slice x.va x.d.V.length x.vc, .slice x.ma x.d.M.length x.mc] 32)) rfl (fun _ _ _ g ⟨cS, h, q0⟩ => ⟨cS, h, q0.gr g⟩) (fun aS wS pS => by
      have eR12_0 : aS.eval (.tmp 4) = .agg #[.string (bs x.d.id), .int .i64 (x.d.s), .int .i64 (x.d.c), .int .i64 (x.d.t), .int .i64 (x.d.n), .int .i64 (x.d.b), .slice x.va x.d.V.length x.vc, .slice x.ma x.d.M.length x.mc] := pS.pre 0 rfl
      exact Does.call (wn _ rfl) (o_f1 Try.func59 rfl rfl rfl (eR12_0)) (supBy_any x wS) (by rintro _ w2 ⟨cS, rfl, -, hbS, g⟩; exact ⟨_, rfl, g, ⟨cS, rfl, hbS⟩⟩) rfl)
  have R123 := R122.snoc (n' := 3) rfl (fun vJ _ => vJ = .agg #[.string (bs y.d.id), .int .i64 (y.d.s), .int .i64 (y.d.c), .int .i64 (y.d.t), .int .i64 (y.d.n), .int .i64 (y.d.b), .slice y.va y.d.V.length y.vc, .slice y.ma y.d.M.length y.mc]) rfl (fun _ _ _ _ h => h) (fun aS wS pS => by
      exact Does.val (wn _ rfl) (o_ldA (k := 0) (cs := [.string (bs y.d.id), .int .i64 (y.d.s), .int .i64 (y.d.c), .int .i64 (y.d.t), .int .i64 (y.d.n), .int .i64 (y.d.b), .slice y.va y.d.V.length y.vc, .slice y.ma y.d.M.length y.mc]) ((pS.old 1 rfl).trans (n10.ne rfl (n2.ne rfl e0_1))) (bk_part (Bk.gr B9 (gr_drew pS.gr)) rfl) Try.underlying32 rfl (by kernel_rfl)) (Gr.refl _) rfl rfl)
  have R124 := R123.snoc (n' := 4) rfl (fun vJ _ => vJ = .bool (ovB x.d y.d)) rfl (fun _ _ _ _ h => h) (fun aS wS pS => by
      obtain ⟨cS, eR12_1, hbS⟩ := pS.pre 1 rfl
      have eR12_1 : aS.eval (.tmp 5) = .func (.func 90) #[] #[.pointer (some ⟨cS, 0, none⟩)] := eR12_1
      have eR12_2 : aS.eval (.tmp 6) = .agg #[.string (bs y.d.id), .int .i64 (y.d.s), .int .i64 (y.d.c), .int .i64 (y.d.t), .int .i64 (y.d.n), .int .i64 (y.d.b), .slice y.va y.d.V.length y.vc, .slice y.ma y.d.M.length y.mc] := pS.pre 2 rfl
      exact Does.call (wn _ rfl) (o_fv1 (caps := [.pointer (some ⟨cS, 0, none⟩)]) ⟨_, Try.func90, rfl, rfl⟩ (eR12_1) (eR12_2)) (supBy1_any y x cS hy (chkOne_zero hx).2.2.1 wS (MeanV.gr hm (G8.trans (gr_drew pS.gr))) hbS) (by rintro _ w2 ⟨rfl, g⟩; exact ⟨_, rfl, g, rfl⟩) rfl)
  have R125 := R124.snoc (n' := 5) rfl (fun vJ _ => vJ = .bool (ovB x.d y.d)) rfl (fun _ _ _ _ h => h) (fun aS wS pS => by
      have eR12_3 : aS.eval (.tmp 7) = .bool (ovB x.d y.d) := pS.pre 3 rfl
      exact Does.val (wn _ rfl) (o_as (eR12_3)) (Gr.refl _) rfl rfl)
  refine R125.run (k := 0) (L := #[true, true, true, true, true]) (by kernel_rfl) (by kernel_rfl) (by kernel_rfl) n10.ok (by kernel_rfl) (by kernel_rfl) (fun ap14 w15 p14 => ?_)
  have g16 := gr_drew p14.gr
  have G17 := G8.trans g16
  have B18 := B9.gr g16
  have B19 := W5.bk.gr g16
  obtain ⟨cS, ep14_1, hbS⟩ := p14.js 1 rfl
  have ep14_1 : ap14.eval (.tmp 5) = .func (.func 90) #[] #[.pointer (some ⟨cS, 0, none⟩)] := ep14_1
  refine wpAny_done (by kernel_rfl) ?_ _
  refine th_n (hK11 _ _ ?_)
  refine wp_ret ?_
  have ep14_4 : ap14.eval (.tmp 3) = .bool (ovB x.d y.d) := p14.js 4 rfl
  exact ret1 p14.ok rfl (ep14_4) ⟨rfl, G17⟩
end Go.Proofs.Ytoencnbpjjkjnaa

/- A region that draws its order: the operations that come ahead of the others may lie anywhere in the list. -/
set_option linter.unusedVariables false
set_option linter.unusedSimpArgs false
namespace Gx
open Go Go.RowKit Rm
/-- is an operation one of those that come first? -/
def hd (hs : List Nat) (i : Nat) : Bool := hs.any fun j => Nat.beq j i
def fdH (ops : Array Oper) (hs : List Nat) : List Nat := hs.filterMap fun i => (ops[i]?).bind (·.dst)
theorem hd_mem {hs : List Nat} {i : Nat} : hd hs i = true ↔ i ∈ hs := by
  unfold hd
  rw [List.any_eq_true]
  constructor
  · rintro ⟨j, hj, e⟩; rw [← Nat.eq_of_beq_eq_true e]; exact hj
  · intro h; exact ⟨i, h, by simp⟩
theorem fdH_mem {ops : Array Oper} {hs : List Nat} {i d : Nat} {o : Oper} (ho : ops[i]? = some o) (hi : hd hs i = true) (hdst : o.dst = some d) : d ∈ fdH ops hs := by
  unfold fdH
  rw [List.mem_filterMap]
  exact ⟨i, hd_mem.1 hi, by rw [ho]; exact hdst⟩
structure PreH (ops : Array Oper) (hs : List Nat) (js : Js) (N : Nat) (a₀ : Act) (w₀ : World) (o : Oper) (a : Act) (w : World) : Prop where
  ok : Ok N a
  gr : Gr w₀ w
  old : ∀ t, (fdH ops hs).all (fun d => !Nat.beq t d) = true → a.eval (.tmp t) = a₀.eval (.tmp t)
  pre : ∀ j, waits o j = true → jAt js j (a.eval (.tmp (dstAt ops j))) w
structure RegH (P : Program) (ops : Array Oper) (Q : Exit → Act → World → Prop) (N : Nat) (a₀ : Act) (w₀ : World) (hs : List Nat) (n : Nat) (js : Js) : Prop where
  back : backs ops = true
  top : ∀ i, n ≤ i → jAt js i = fun _ _ => True
  mono : ∀ i v w w', Gr w w' → jAt js i v w → jAt js i v w'
  does : ∀ i o, i < n → hd hs i = true → ops[i]? = some o → ∀ a w, PreH ops hs js N a₀ w₀ o a w → Does P ops Q (jAt js i) o a w
section
variable {P : Program} {ops : Array Oper} {Q : Exit → Act → World → Prop} {N : Nat} {a₀ : Act} {w₀ : World} {hs : List Nat}
theorem RegH.nil (hb : backs ops = true) : RegH P ops Q N a₀ w₀ hs 0 [] := ⟨hb, fun _ _ => rfl, fun i v w w' _ _ => trivial, fun i o h => absurd h (Nat.not_lt_zero _)⟩
theorem RegH.snoc {n n' : Nat} {js : Js} (R : RegH P ops Q N a₀ w₀ hs n js) (hn : n + 1 = n') (J : Value → World → Prop) {o : Oper} (ho : ops[n]? = some o) (hm : ∀ v w w', Gr w w' → J v w → J v w')
    (h : ∀ a w, PreH ops hs js N a₀ w₀ o a w → Does P ops Q J o a w) : RegH P ops Q N a₀ w₀ hs n' ((n, J) :: js) where
  back := R.back
  top i hi := by rw [jAt_ne (by omega)]; exact R.top i (by omega)
  mono i v w w' g hj := by
    by_cases q : n = i
    · subst q; rw [jAt_eq] at *; exact hm v w w' g hj
    · rw [jAt_ne q] at *; exact R.mono i v w w' g hj
  does i o' hi hh ho' a w p := by
    have p' : PreH ops hs js N a₀ w₀ o' a w := by
      refine ⟨p.ok, p.gr, p.old, fun j hj => ?_⟩
      have h1 := p.pre j hj
      have hlt : j < n := by
        unfold waits at hj
        obtain ⟨e, he, hh⟩ := List.any_eq_true.1 hj
        have h2 := backs_spec R.back i o' ho' e (by simpa using he) (Bool.and_eq_true_iff.1 hh).1
        simp only [Bool.and_eq_true] at hh
        have h3 := Nat.eq_of_beq_eq_true hh.2
        omega
      rwa [jAt_ne (by omega)] at h1
    by_cases q : n = i
    · subst q
      rw [jAt_eq]
      obtain rfl : o = o' := Option.some.inj (ho.symm.trans ho')
      exact h a w p'
    · rw [jAt_ne q]
      exact R.does i o' (by omega) hh ho' a w p'
/-- an operation that does not come first -/
theorem RegH.skip {n n' : Nat} {js : Js} (R : RegH P ops Q N a₀ w₀ hs n js) (hn : n + 1 = n') (hh : hd hs n = false) : RegH P ops Q N a₀ w₀ hs n' js where
  back := R.back
  top i hi := R.top i (by omega)
  mono := R.mono
  does i o' hi hh' ho' a w p := by
    by_cases q : n = i
    · subst q; rw [hh] at hh'; cases hh'
    · exact R.does i o' (by omega) hh' ho' a w p
def shapeH (ops : Array Oper) (hs : List Nat) : Bool :=
  (hs.all fun i => ((ops[i]?).bind (·.dst)).isSome && ((hs.all fun j => Nat.beq j i || !Nat.beq (dstAt ops j) (dstAt ops i))) && (match ops[i]? with | some o => o.after.toList.all fun e => !(Region.binds .any e) || hd hs e.on | none => false)) &&
  ((List.range ops.size).all fun i => hd hs i || (hs.all fun j => reach ops ops.size i j))
def firstsH (n : Nat) (hs : List Nat) : Array Bool := ((List.range n).map fun i => hd hs i).toArray
theorem shapeH_spec (h : shapeH ops hs = true) : (∀ i, hd hs i = true → ∃ o, ops[i]? = some o ∧ o.dst = some (dstAt ops i) ∧ ∀ e ∈ o.after, Region.binds .any e = true → hd hs e.on = true) ∧
    (∀ i j, hd hs i = true → hd hs j = true → i ≠ j → dstAt ops j ≠ dstAt ops i) ∧ (∀ i, i < ops.size → hd hs i = false → ∀ j, hd hs j = true → reach ops ops.size i j = true) := by
  unfold shapeH at h
  rw [Bool.and_eq_true] at h
  obtain ⟨h1, h2⟩ := h
  have key : ∀ i, hd hs i = true → (((ops[i]?).bind (·.dst)).isSome = true ∧ (∀ j, hd hs j = true → i ≠ j → dstAt ops j ≠ dstAt ops i)) ∧ (match ops[i]? with | some o => o.after.toList.all fun e => !(Region.binds .any e) || hd hs e.on | none => false) = true := by
    intro i hi
    have := List.all_eq_true.1 h1 i (hd_mem.1 hi)
    simp only [Bool.and_eq_true] at this
    refine ⟨⟨this.1.1, fun j hj hne => ?_⟩, this.2⟩
    have h3 := List.all_eq_true.1 this.1.2 j (hd_mem.1 hj)
    rw [Bool.or_eq_true] at h3
    rcases h3 with h3 | h3
    · exact absurd (Nat.eq_of_beq_eq_true h3).symm hne
    · rw [Bool.not_eq_true'] at h3
      exact Nat.ne_of_beq_eq_false h3
  refine ⟨fun i hi => ?_, fun i j hi hj hne => (key i hi).1.2 j hj hne, fun i hi hn j hj => ?_⟩
  · obtain ⟨⟨k1, -⟩, k2⟩ := key i hi
    cases ho : ops[i]? with
    | none => rw [ho] at k1; cases k1
    | some o =>
      refine ⟨o, rfl, ?_, fun e he hb => ?_⟩
      · rw [ho] at k1
        simp only [Option.bind_some] at k1
        obtain ⟨d, hd'⟩ := Option.isSome_iff_exists.1 k1
        unfold dstAt
        rw [ho]
        simp [hd']
      · rw [ho] at k2
        have := List.all_eq_true.1 k2 e (by simpa using he)
        rw [hb] at this
        simpa using this
  · have := List.all_eq_true.1 h2 i (List.mem_range.2 hi)
    rw [hn, Bool.false_or] at this
    exact List.all_eq_true.1 this j (hd_mem.1 hj)
structure PostH (ops : Array Oper) (hs : List Nat) (js : Js) (N : Nat) (a₀ : Act) (w₀ : World) (a : Act) (w : World) : Prop where
  ok : Ok N a
  gr : Gr w₀ w
  old : ∀ t, (fdH ops hs).all (fun d => !Nat.beq t d) = true → a.eval (.tmp t) = a₀.eval (.tmp t)
  js : ∀ j, hd hs j = true → jAt js j (a.eval (.tmp (dstAt ops j))) w
  dis : ∀ i j b b', hd hs i = true → hd hs j = true → Nat.beq i j = false → alAt ops i = true → alAt ops j = true → a.eval (.tmp (dstAt ops i)) = .pointer (some ⟨b, 0, none⟩) → a.eval (.tmp (dstAt ops j)) = .pointer (some ⟨b', 0, none⟩) → b ≠ b'
structure WayH (ops : Array Oper) (hs : List Nat) (js : Js) (N : Nat) (a₀ : Act) (w₀ : World) (U : List Nat) (L : Array Bool) (a : Act) (w : World) : Prop where
  ok : Ok N a
  gr : Gr w₀ w
  old : ∀ t, (fdH ops hs).all (fun d => !Nat.beq t d) = true → a.eval (.tmp t) = a₀.eval (.tmp t)
  size : L.size = ops.size
  closed : Closed ops L
  nodup : U.Nodup
  un : ∀ j, hd hs j = true → (L.getD j false = false ↔ j ∈ U)
  lt : ∀ j ∈ U, hd hs j = true
  tail : ∀ j, hd hs j = false → L.getD j false = false
  js : ∀ j, hd hs j = true → L.getD j false = true → jAt js j (a.eval (.tmp (dstAt ops j))) w
  dis : ∀ i j, hd hs i = true → hd hs j = true → i ≠ j → L.getD i false = true → L.getD j false = true → alAt ops i = true → alAt ops j = true → ∃ b b', a.eval (.tmp (dstAt ops i)) = .pointer (some ⟨b, 0, none⟩) ∧ a.eval (.tmp (dstAt ops j)) = .pointer (some ⟨b', 0, none⟩) ∧ b ≠ b'
  low : ∀ i, hd hs i = true → L.getD i false = true → alAt ops i = true → ∃ b, a.eval (.tmp (dstAt ops i)) = .pointer (some ⟨b, 0, none⟩) ∧ b < w.heap.size
theorem RegH.way {n : Nat} {js : Js} (R : RegH P ops Q N a₀ w₀ hs n js) (hn0 : n = ops.size) (hsh : shapeH ops hs = true) (hN : (hs.all fun i => Nat.blt (dstAt ops i) N) = true) (k : Nat)
    (hend : ∀ a w, PostH ops hs js N a₀ w₀ a w → wpAny P .any ops Q k (firstsH ops.size hs) a w) :
    ∀ (U : List Nat) (L : Array Bool) (a : Act) (w : World), WayH ops hs js N a₀ w₀ U L a w → wpAny P .any ops Q (U.length + k) L a w := by
  obtain ⟨hdd0, hdd, ht⟩ := shapeH_spec hsh
  subst hn0
  have hb := backs_spec R.back
  intro U
  generalize hn : U.length = u0
  induction u0 generalizing U with
  | zero =>
    intro L a w W
    have hU : U = [] := List.eq_nil_of_length_eq_zero hn
    subst hU
    have hall : ∀ j, hd hs j = true → L.getD j false = true := fun j hj => by
      have := (W.un j hj)
      cases e : L.getD j false
      · rw [e] at this; exact absurd (this.1 rfl) (by simp)
      · rfl
    have hL : L = firstsH ops.size hs := by
      apply Array.ext
      · simp [firstsH, W.size]
      · intro i h1 h2
        have e1 : L[i] = L.getD i false := by simp [Array.getD, h1]
        rw [e1]
        simp only [firstsH, List.getElem_toArray, List.getElem_map, List.getElem_range]
        cases q : hd hs i
        · exact W.tail i q
        · exact hall i q
    subst hL
    rw [Nat.zero_add]
    exact hend a w ⟨W.ok, W.gr, W.old, fun j hj => W.js j hj (hall j hj), fun i j b b' hi hj hij h1 h2 e1 e2 => by
      obtain ⟨c, c', q1, q2, q3⟩ := W.dis i j hi hj (Nat.ne_of_beq_eq_false hij) (hall i hi) (hall j hj) h1 h2
      rw [e1] at q1
      rw [e2] at q2
      cases q1
      cases q2
      exact q3⟩
  | succ u0 ih =>
    intro L a w W
    rw [Nat.succ_add]
    -- the least one that is not listed may come up
    have hne : Region.ready .any ops L ≠ [] := by
      obtain ⟨u, hu⟩ : ∃ u, u ∈ U := List.exists_mem_of_length_pos (by omega)
      have hlu := W.lt u hu
      have hex : ∃ k, hd hs k = true ∧ L.getD k false = false := ⟨u, hlu, (W.un u hlu).2 hu⟩
      obtain ⟨k, ⟨hk1, hk2⟩, hk3⟩ := exists_least hex
      obtain ⟨o, ho, -, hcl⟩ := hdd0 k hk1
      have hki : k < L.size := by rw [W.size]; exact (Array.getElem?_eq_some_iff.1 ho).1
      have : k ∈ Region.ready .any ops L := by
        rw [mem_ready]
        refine ⟨by rw [getD_lt hki true false]; exact hk2, o, ho, fun e he hbd => ?_⟩
        have hlt := hb k o ho e he hbd
        cases q : L.getD e.on false
        · have := hk3 e.on ⟨hcl e he hbd, q⟩; omega
        · rfl
      intro e
      rw [e] at this
      cases this
    refine ⟨fun h => absurd h hne, fun i hi => ?_⟩
    obtain ⟨hil, o, ho, hall⟩ := mem_ready.1 hi
    have his : i < ops.size := (Array.getElem?_eq_some_iff.1 ho).1
    have hiL : i < L.size := by rw [W.size]; exact his
    have hil' : L.getD i false = false := by rw [getD_lt hiL false true]; exact hil
    have him : hd hs i = true := by
      cases q : hd hs i
      · exfalso
        obtain ⟨u, hu⟩ : ∃ u, u ∈ U := List.exists_mem_of_length_pos (by omega)
        have hlu := W.lt u hu
        have h1 := reach_listed W.closed ops.size i u (fun o' ho' e he hbd => by
          obtain rfl : o = o' := Option.some.inj (ho.symm.trans ho')
          exact hall e he hbd) (ht i his q u hlu)
        rw [(W.un u hlu).2 hu] at h1
        cases h1
      · rfl
    have hiU : i ∈ U := (W.un i him).1 hil'
    obtain ⟨o', ho', hdst, hcl⟩ := hdd0 i him
    obtain rfl : o = o' := Option.some.inj (ho.symm.trans ho')
    have hdoes := R.does i o his him ho a w ⟨W.ok, W.gr, W.old, fun j hj => by
        unfold waits at hj
        obtain ⟨e, he, hh⟩ := List.any_eq_true.1 hj
        have he : e ∈ o.after := by simpa using he
        simp only [Bool.and_eq_true] at hh
        have h2 := Nat.eq_of_beq_eq_true hh.2
        have h3 := hall e he hh.1
        rw [h2] at h3
        have hjh := hcl e he hh.1
        rw [h2] at hjh
        exact W.js j hjh h3⟩
    have hdN : Nat.blt (dstAt ops i) N = true := List.all_eq_true.1 hN i (hd_mem.1 him)
    have next : ∀ v w', Gr w w' → jAt js i v w' → (isAl o = true → v = .pointer (some ⟨w.heap.size, 0, none⟩) ∧ w.heap.size < w'.heap.size) → wpAny P .any ops Q (u0 + k) (L.setIfInBounds i true) (a.put o.dst v) w' := by
      intro v w' g hJ hA
      rw [hdst]
      have nx := Nx.put W.ok hdN v
      refine ih (U.erase i) (by rw [List.length_erase_of_mem hiU, hn]; rfl) (L.setIfInBounds i true) _ w' ?_
      refine ⟨nx.ok, W.gr.trans g, fun t ht => ?_, by simp [W.size], ?_, W.nodup.erase _, ?_, fun j hj => W.lt j (List.mem_of_mem_erase hj), ?_, ?_, ?_, ?_⟩
      · have := List.all_eq_true.1 ht _ (fdH_mem ho him hdst)
        rw [Bool.not_eq_true'] at this
        exact (nx.oth t this).trans (W.old t ht)
      · intro k ok hk hok e he hbd
        rw [getD_set hiL] at hk ⊢
        split
        · rfl
        · by_cases q : i = k
          · subst q
            obtain rfl : o = ok := Option.some.inj (ho.symm.trans hok)
            exact hall e he hbd
          · rw [if_neg q] at hk
            exact W.closed k ok hk hok e he hbd
      · intro j hj
        rw [getD_set hiL, W.nodup.mem_erase_iff]
        by_cases q : i = j
        · subst q; simp
        · rw [if_neg q, W.un j hj]
          exact ⟨fun h => ⟨fun e => q e.symm, h⟩, fun h => h.2⟩
      · intro j hj
        rw [getD_set hiL, if_neg (fun e => by subst e; rw [him] at hj; cases hj)]
        exact W.tail j hj
      · intro j hj hl
        by_cases q : i = j
        · subst q
          rw [nx.at_]
          exact hJ
        · rw [getD_set hiL, if_neg q] at hl
          have h1 := W.js j hj hl
          rw [nx.oth _ (by
            have := hdd i j him hj q
            cases e : Nat.beq (dstAt ops j) (dstAt ops i)
            · rfl
            · exact absurd (Nat.eq_of_beq_eq_true e) this)]
          exact R.mono j _ _ _ g h1
      · intro j k hj hk hjk hlj hlk haj hak
        have other : ∀ j, hd hs j = true → i ≠ j → (L.setIfInBounds i true).getD j false = true → L.getD j false = true ∧ (a.put (some (dstAt ops i)) v).eval (.tmp (dstAt ops j)) = a.eval (.tmp (dstAt ops j)) := by
          intro j hj q hl
          rw [getD_set hiL, if_neg q] at hl
          refine ⟨hl, nx.oth _ ?_⟩
          have := hdd i j him hj q
          cases e : Nat.beq (dstAt ops j) (dstAt ops i)
          · rfl
          · exact absurd (Nat.eq_of_beq_eq_true e) this
        have hio : ∀ q : alAt ops i = true, isAl o = true := fun q => by unfold alAt at q; rw [ho] at q; exact q
        by_cases q1 : i = j
        · subst q1
          obtain ⟨hl, he⟩ := other k hk hjk hlk
          obtain ⟨b, h1, h2⟩ := W.low k hk hl hak
          obtain ⟨h3, h4⟩ := hA (hio haj)
          exact ⟨_, b, by rw [nx.at_, h3], by rw [he]; exact h1, by omega⟩
        · by_cases q2 : i = k
          · subst q2
            obtain ⟨hl, he⟩ := other j hj q1 hlj
            obtain ⟨b, h1, h2⟩ := W.low j hj hl haj
            obtain ⟨h3, h4⟩ := hA (hio hak)
            exact ⟨b, _, by rw [he]; exact h1, by rw [nx.at_, h3], by omega⟩
          · obtain ⟨hl, he⟩ := other j hj q1 hlj
            obtain ⟨hl', he'⟩ := other k hk q2 hlk
            obtain ⟨b, b', h1, h2, h3⟩ := W.dis j k hj hk hjk hl hl' haj hak
            exact ⟨b, b', by rw [he]; exact h1, by rw [he']; exact h2, h3⟩
      · intro j hj hl haj
        by_cases q : i = j
        · subst q
          have hio : isAl o = true := by unfold alAt at haj; rw [ho] at haj; exact haj
          obtain ⟨h3, h4⟩ := hA hio
          exact ⟨_, by rw [nx.at_, h3], h4⟩
        · rw [getD_set hiL, if_neg q] at hl
          obtain ⟨b, h1, h2⟩ := W.low j hj hl haj
          refine ⟨b, ?_, Nat.lt_of_lt_of_le h2 g.le⟩
          rw [nx.oth _ (by
            have := hdd i j him hj q
            cases e : Nat.beq (dstAt ops j) (dstAt ops i)
            · rfl
            · exact absurd (Nat.eq_of_beq_eq_true e) this)]
          exact h1
    unfold wpOp
    rw [ho]
    unfold Does at hdoes
    by_cases hw : Region.wanted o (yielded ops a.tmps) = true
    · rw [if_pos hw] at hdoes
      simp only [hw, if_true]
      left
      refine Oper.wp_mono ?_ hdoes
      rintro a' w' ⟨v, rfl, g, hj, hA⟩
      exact next v w' g hj hA
    · rw [if_neg hw] at hdoes
      simp only [hw, if_false, Bool.false_eq_true]
      exact next undef w (Gr.refl w) hdoes.1 (fun e => by rw [hdoes.2] at e; cases e)
/-- a region that draws its order -/
theorem RegH.run {id n : Nat} {js : Js} {a : Act} {w : World} (R : RegH P ops Q N a w.drew hs n js) (hn : ops.size = n) {k : Nat} {L : Array Bool} (hk : ((List.range n).filter fun i => hd hs i).length + k = n) (hL : firstsH n hs = L) (hf : P.follows .mixedOrders = true) (ok : Ok N a) (hsh : shapeH ops hs = true) (hN : (hs.all fun i => Nat.blt (dstAt ops i) N) = true)
    (hend : ∀ a' w', PostH ops hs js N a w.drew a' w' → wpAny P .any ops Q k L a' w') : (Code.region id ops true).wp P Q a w := by
  subst hn hL
  refine wp_region_any hf ?_
  obtain ⟨hdd0, -, -⟩ := shapeH_spec hsh
  have hmem : ∀ j, hd hs j = true → j ∈ (List.range ops.size).filter fun i => hd hs i := fun j hj => by
    obtain ⟨o, ho, -⟩ := hdd0 j hj
    exact List.mem_filter.2 ⟨List.mem_range.2 (Array.getElem?_eq_some_iff.1 ho).1, hj⟩
  have h := R.way rfl hsh hN k hend ((List.range ops.size).filter fun i => hd hs i) (Array.replicate ops.size false) a w.drew
    { ok := ok, gr := Gr.refl _, old := fun _ _ => rfl, size := by simp
      closed := fun i o h => by rw [replicate_getD] at h; cases h
      nodup := List.nodup_range.filter _
      un := fun j hj => by rw [replicate_getD]; simp only [true_iff]; exact hmem j hj
      lt := fun j hj => (List.mem_filter.1 hj).2
      tail := fun j _ => replicate_getD _ _
      js := fun j _ h => by rw [replicate_getD] at h; cases h
      dis := fun i j _ _ _ h => by rw [replicate_getD] at h; cases h
      low := fun i _ h => by rw [replicate_getD] at h; cases h }
  rw [hk] at h
  exact h
end
end Gx

