/- The document's sets of dots: Join, Meet. -/
import Derived.Test.YtghjfakellaecaaGxO
import Derived.Test.YtghjfakellaecaaKnX2
set_option linter.unusedVariables false
set_option linter.unusedSimpArgs false
namespace Rm
/-- two rows of words, done up to a number -/
def upto (X Y : Nat → Nat) (f : Nat → Nat → Nat) (n : Nat) : Nat → Nat := fun j => if j < n then f (X j) (Y j) else X j
end Rm
namespace Gx
open Go Go.RowKit Rm
section
variable {P : Program} {ev : Operand → Value} {d : Option Tmp} {ty : TypeId} {p : String} {af : Array Edge} {g : Option (Nat × Bool)} {w : World}
theorem o_orU {t t' : TypeId} {x y : Operand} {i j : Nat} (hx : ev x = .int .u64 (i : Int)) (hy : ev y = .int .u64 (j : Int)) (hi : i < 2 ^ 64) (hj : j < 2 ^ 64) : (execOp ev (Oper.mk d (.binOp .or t x y t') ty p af g)).run P w = .ok (.value (.int .u64 ((i ||| j : Nat) : Int))) w := by
  have h := Go.Proofs.Ytghjfakellaecaa.bits_or i j hi hj
  unfold execOp
  simp only [hx, hy, eqGuard, binOp, Sem.run_bind]
  rw [← h]
  rfl
theorem o_andU {t t' : TypeId} {x y : Operand} {i j : Nat} (hx : ev x = .int .u64 (i : Int)) (hy : ev y = .int .u64 (j : Int)) (hi : i < 2 ^ 64) (hj : j < 2 ^ 64) : (execOp ev (Oper.mk d (.binOp .and t x y t') ty p af g)).run P w = .ok (.value (.int .u64 ((i &&& j : Nat) : Int))) w := by
  have h := Go.Proofs.Ytghjfakellaecaa.bits_and i j hi hj
  unfold execOp
  simp only [hx, hy, eqGuard, binOp, Sem.run_bind]
  rw [← h]
  rfl
end
end Gx
namespace Go.Proofs.Ytghjfakellaecaa
open Go.RowKit Rm Gx
theorem upto_zero (X Y : Nat → Nat) (f : Nat → Nat → Nat) : upto X Y f 0 = X := by funext q; simp [upto]
theorem upto_lt (X Y : Nat → Nat) (f : Nat → Nat → Nat) (n j : Nat) (h : j < n) : upto X Y f n j = f (X j) (Y j) := if_pos h
theorem upto_get (X Y : Nat → Nat) (f : Nat → Nat → Nat) (n m : Nat) (h : m = n) (h8 : m < 80) : (wArr (upto X Y f n))[m]? = some (.int .u64 ((X m : Nat) : Int)) := by
  subst h
  rw [wArr_at _ _ h8]
  simp [upto]
theorem upto_put (X Y : Nat → Nat) (f : Nat → Nat → Nat) (n m : Nat) (h : m = n) : (wArr (upto X Y f n)).setIfInBounds m (.int .u64 ((f (X m) (Y m) : Nat) : Int)) = wArr (upto X Y f (n + 1)) := by
  subst h
  rw [wArr_set]
  congr 1
  funext q
  unfold upto
  rcases Nat.lt_trichotomy q m with h | h | h
  · rw [if_neg (by omega), if_pos h, if_pos (by omega)]
  · subst h; simp
  · rw [if_neg (by omega), if_neg (by omega), if_neg (by omega)]
set_option maxHeartbeats 8000000 in
set_option maxRecDepth 100000 in
theorem djoin_any (X Y : Nat → Nat) (hX : OkX X) (hY : OkX Y) (w : World) :
    Calls Try.prog 49 #[.agg (wArr X), .agg (wArr Y)] w fun e w' => e = .returned (.agg (wArr fun i => X i ||| Y i)) ∧ Gr w w' := by
  refine enter (N := 29) Try.func49 rfl rfl rfl (fun a0 ok0 h0 => ?_)
  have e0_0 : a0.eval (.tmp 0) = .agg (wArr X) := h0 0 _ rfl
  have e0_1 : a0.eval (.tmp 1) = .agg (wArr Y) := h0 1 _ rfl
  clear h0
  have G0 := Gr.refl w
  refine wp_seq_k (fun K1 hK1 => ?_)
  refine wp_region_lit ?_
  refine sal (cs := wArr X) ok0 rfl (wn _ rfl) rfl (o_box e0_0) (fun an2 w4 b3 W5 n2 => ?_)
  have l6 : w.heap.size ≤ b3 := by rw [W5.eq]; exact G0.size
  have G7 := G0.trans W5.gr
  refine sal (cs := wArr Y) n2.ok rfl (wn _ rfl) rfl (o_box (n2.ne rfl e0_1)) (fun an8 w10 b9 W11 n8 => ?_)
  have l12 : b3 < b9 := by rw [W11.eq]; exact W5.bk.lt
  have l13 : w.heap.size ≤ b9 := by rw [W11.eq]; exact G7.size
  have G14 := G7.trans W11.gr
  have B15 := W5.bk.gr W11.gr
  refine sal (cs := wArr (fun _ => 0)) n8.ok rfl (wn _ rfl) rfl (o_al (z := .agg (wArr (fun _ => 0))) dots_zero) (fun an16 w18 b17 W19 n16 => ?_)
  have l20 : b3 < b17 := by rw [W19.eq]; exact B15.lt
  have l21 : b9 < b17 := by rw [W19.eq]; exact W11.bk.lt
  have l22 : w.heap.size ≤ b17 := by rw [W19.eq]; exact G14.size
  have G23 := G14.trans W19.gr
  have B24 := B15.gr W19.gr
  have B25 := W11.bk.gr W19.gr
  refine wpList_nil ?_
  refine th_n (hK1 _ _ ?_)
  refine wp_seq_k (fun K26 hK26 => ?_)
  refine wp_seq_k (fun K27 hK27 => ?_)
  refine wp_region_lit ?_
  refine sv n16.ok rfl (wn _ rfl) rfl (o_mv ev_const) (fun an28 n28 => ?_)
  refine wpList_nil ?_
  refine th_n (hK27 _ _ ?_)
  refine wp_block ?_
  have e30 := n28.ne rfl (n16.ne rfl (n8.ne rfl n2.at_))
  refine lp (fun (nL : Nat) (aL : Act) (wL : World) => ∃ i : Nat, nL = 5 - i ∧ Ok 29 aL ∧ Gr w wL ∧ (aL.eval (.tmp 2) = .pointer (some ⟨b3, 0, none⟩)) ∧ (aL.eval (.tmp 3) = .pointer (some ⟨b9, 0, none⟩)) ∧ (aL.eval (.tmp 4) = .pointer (some ⟨b17, 0, none⟩)) ∧ (aL.eval (.tmp 7) = .int .i64 (i : Int)) ∧ (Bk wL b3 (wArr (upto X Y (· ||| ·) (i * 16))) 86) ∧ (Bk wL b9 (wArr Y) 86) ∧ (Bk wL b17 (wArr (fun _ => 0)) 86) ∧ (i ≤ 5)) _ ⟨0, rfl, n28.ok, G23, e30, (n28.ne rfl (n16.ne rfl n8.at_)), (n28.ne rfl n16.at_), n28.at_, (by rw [Nat.zero_mul, upto_zero]; exact B24), B25, W19.bk, by omega⟩ ?_
  rintro m31 aI29 w33 ⟨i, hmI29, okI29, GI29, s2I29, s3I29, s4I29, s7I29, kb3I29, kb9I29, kb17I29, hiI29⟩ KI29 hKI29
  refine wp_seq_k (fun K34 hK34 => ?_)
  refine wp_region_lit ?_
  refine sv okI29 rfl (wn _ rfl) rfl (o_ltI s7I29 ev_const) (fun an35 n35 => ?_)
  refine wpList_nil ?_
  refine th_n (hK34 _ _ ?_)
  refine wp_seq_k (fun K36 hK36 => ?_)
  by_cases c37 : (i : Int) < 5
  · refine wp_cond_true ((n35.at_).trans (congrArg Value.bool (decide_eq_true c37))) ?_
    refine wp_skip ?_
    refine th_n (hK36 _ _ ?_)
    refine wp_seq_k (fun K38 hK38 => ?_)
    refine wp_block ?_
    refine wp_seq_k (fun K39 hK39 => ?_)
    refine wp_region_lit ?_
    refine sv n35.ok rfl (wn _ rfl) rfl (o_mv (n35.ne rfl s7I29)) (fun an40 n40 => ?_)
    refine sv n40.ok rfl (wn _ rfl) rfl (o_as n40.at_) (fun an41 n41 => ?_)
    refine wpList_nil ?_
    refine th_n (hK39 _ _ ?_)
    refine wp_seq_k (fun K42 hK42 => ?_)
    refine wp_region_lit ?_
    refine sv n41.ok rfl (wn _ rfl) rfl (o_mv ev_const) (fun an43 n43 => ?_)
    refine wpList_nil ?_
    refine th_n (hK42 _ _ ?_)
    refine wp_block ?_
    have e45 := n43.ne rfl (n41.ne rfl (n40.ne rfl (n35.ne rfl s2I29)))
    have e46 := n43.ne rfl (n41.ne rfl (n40.ne rfl (n35.ne rfl s3I29)))
    have e47 := n43.ne rfl (n41.ne rfl (n40.ne rfl (n35.ne rfl s4I29)))
    have e48 := n43.ne rfl (n41.ne rfl (n40.ne rfl (n35.ne rfl s7I29)))
    refine lp (fun (nL : Nat) (aL : Act) (wL : World) => ∃ k : Nat, nL = 16 - k ∧ Ok 29 aL ∧ Gr w wL ∧ (aL.eval (.tmp 2) = .pointer (some ⟨b3, 0, none⟩)) ∧ (aL.eval (.tmp 3) = .pointer (some ⟨b9, 0, none⟩)) ∧ (aL.eval (.tmp 4) = .pointer (some ⟨b17, 0, none⟩)) ∧ (aL.eval (.tmp 5) = .int .i64 (i : Int)) ∧ (aL.eval (.tmp 7) = .int .i64 (i : Int)) ∧ (aL.eval (.tmp 10) = .int .i64 (k : Int)) ∧ (Bk wL b3 (wArr (upto X Y (· ||| ·) (i * 16 + k))) 86) ∧ (Bk wL b9 (wArr Y) 86) ∧ (Bk wL b17 (wArr (fun _ => 0)) 86) ∧ (k ≤ 16)) _ ⟨0, rfl, n43.ok, GI29, e45, e46, e47, (n43.ne rfl n41.at_), e48, n43.at_, kb3I29, kb9I29, kb17I29, by omega⟩ ?_
    rintro m49 aI44 w51 ⟨k, hmI44, okI44, GI44, s2I44, s3I44, s4I44, s5I44, s7I44, s10I44, kb3I44, kb9I44, kb17I44, hkI44⟩ KI44 hKI44
    refine wp_seq_k (fun K52 hK52 => ?_)
    refine wp_region_lit ?_
    refine sv okI44 rfl (wn _ rfl) rfl (o_ltI s10I44 ev_const) (fun an53 n53 => ?_)
    refine wpList_nil ?_
    refine th_n (hK52 _ _ ?_)
    refine wp_seq_k (fun K54 hK54 => ?_)
    by_cases c55 : (k : Int) < 16
    · refine wp_cond_true ((n53.at_).trans (congrArg Value.bool (decide_eq_true c55))) ?_
      refine wp_skip ?_
      refine th_n (hK54 _ _ ?_)
      refine wp_seq_k (fun K56 hK56 => ?_)
      refine wp_block ?_
      refine wp_seq_k (fun K57 hK57 => ?_)
      refine wp_region_lit ?_
      refine sv n53.ok rfl (wn _ rfl) rfl (o_mv (n53.ne rfl s10I44)) (fun an58 n58 => ?_)
      refine sv n58.ok rfl (wn _ rfl) rfl (o_as n58.at_) (fun an59 n59 => ?_)
      refine wpList_nil ?_
      refine th_n (hK57 _ _ ?_)
      refine reg_start (N := 29) (m := 13) (by kernel_rfl) (fun R600 => ?_)
      have e61 := n59.ne rfl (n58.ne rfl (n53.ne rfl s5I44))
      have R601 := R600.snoc (n' := 1) rfl (fun vJ _ => vJ = .int .i64 (i : Int)) rfl (fun _ _ _ _ h => h) (fun aS wS pS => by
          exact Does.val (wn _ rfl) (o_mv ((pS.old 5 rfl).trans e61)) (Gr.refl _) rfl rfl)
      have R602 := R601.snoc (n' := 2) rfl (fun vJ _ => vJ = .int .i64 (k : Int)) rfl (fun _ _ _ _ h => h) (fun aS wS pS => by
          exact Does.val (wn _ rfl) (o_mv ((pS.old 6 rfl).trans n59.at_)) (Gr.refl _) rfl rfl)
      have e62 := n59.ne rfl (n58.ne rfl (n53.ne rfl s2I44))
      have R603 := R602.snoc (n' := 3) rfl (fun vJ _ => vJ = .pointer (some ⟨b3, 0 + i * 16, none⟩)) rfl (fun _ _ _ _ h => h) (fun aS wS pS => by
          have eR60_0 : aS.eval (.tmp 13) = .int .i64 (i : Int) := pS.pre 0 rfl
          exact Does.val (wn _ rfl) (o_iaA (i := i) (s := 16) ((pS.old 2 rfl).trans e62) (eR60_0) Try.underlying86 (by kernel_rfl) (by omega)) (Gr.refl _) rfl rfl)
      have R604 := R603.snoc (n' := 4) rfl (fun vJ _ => vJ = .pointer (some ⟨b3, 0 + i * 16 + k * 1, none⟩)) rfl (fun _ _ _ _ h => h) (fun aS wS pS => by
          have eR60_1 : aS.eval (.tmp 14) = .int .i64 (k : Int) := pS.pre 1 rfl
          have eR60_2 : aS.eval (.tmp 15) = .pointer (some ⟨b3, 0 + i * 16, none⟩) := pS.pre 2 rfl
          exact Does.val (wn _ rfl) (o_iaA (i := k) (s := 1) (eR60_2) (eR60_1) Try.underlying84 (by kernel_rfl) (by omega)) (Gr.refl _) rfl rfl)
      have R605 := R604.snoc (n' := 5) rfl (fun vJ _ => vJ = .int .u64 ((X (0 + i * 16 + k * 1) : Nat) : Int)) rfl (fun _ _ _ _ h => h) (fun aS wS pS => by
          have eR60_3 : aS.eval (.tmp 16) = .pointer (some ⟨b3, 0 + i * 16 + k * 1, none⟩) := pS.pre 3 rfl
          exact Does.val (wn _ rfl) (o_ld (eR60_3) (Try.isAgg83 _) ((Bk.gr kb3I44 (gr_drew pS.gr)).cell _ (upto_get X Y (· ||| ·) _ _ (by omega) (by omega)))) (Gr.refl _) rfl rfl)
      have R606 := R605.snoc (n' := 6) rfl (fun vJ _ => vJ = .int .i64 (i : Int)) rfl (fun _ _ _ _ h => h) (fun aS wS pS => by
          exact Does.val (wn _ rfl) (o_mv ((pS.old 5 rfl).trans e61)) (Gr.refl _) rfl rfl)
      have R607 := R606.snoc (n' := 7) rfl (fun vJ _ => vJ = .int .i64 (k : Int)) rfl (fun _ _ _ _ h => h) (fun aS wS pS => by
          exact Does.val (wn _ rfl) (o_mv ((pS.old 6 rfl).trans n59.at_)) (Gr.refl _) rfl rfl)
      have e63 := n59.ne rfl (n58.ne rfl (n53.ne rfl s3I44))
      have R608 := R607.snoc (n' := 8) rfl (fun vJ _ => vJ = .pointer (some ⟨b9, 0 + i * 16, none⟩)) rfl (fun _ _ _ _ h => h) (fun aS wS pS => by
          have eR60_5 : aS.eval (.tmp 18) = .int .i64 (i : Int) := pS.pre 5 rfl
          exact Does.val (wn _ rfl) (o_iaA (i := i) (s := 16) ((pS.old 3 rfl).trans e63) (eR60_5) Try.underlying86 (by kernel_rfl) (by omega)) (Gr.refl _) rfl rfl)
      have R609 := R608.snoc (n' := 9) rfl (fun vJ _ => vJ = .pointer (some ⟨b9, 0 + i * 16 + k * 1, none⟩)) rfl (fun _ _ _ _ h => h) (fun aS wS pS => by
          have eR60_6 : aS.eval (.tmp 19) = .int .i64 (k : Int) := pS.pre 6 rfl
          have eR60_7 : aS.eval (.tmp 20) = .pointer (some ⟨b9, 0 + i * 16, none⟩) := pS.pre 7 rfl
          exact Does.val (wn _ rfl) (o_iaA (i := k) (s := 1) (eR60_7) (eR60_6) Try.underlying84 (by kernel_rfl) (by omega)) (Gr.refl _) rfl rfl)
      have R6010 := R609.snoc (n' := 10) rfl (fun vJ _ => vJ = .int .u64 ((Y (0 + i * 16 + k * 1) : Nat) : Int)) rfl (fun _ _ _ _ h => h) (fun aS wS pS => by
          have eR60_8 : aS.eval (.tmp 21) = .pointer (some ⟨b9, 0 + i * 16 + k * 1, none⟩) := pS.pre 8 rfl
          exact Does.val (wn _ rfl) (o_ld (eR60_8) (Try.isAgg83 _) ((Bk.gr kb9I44 (gr_drew pS.gr)).cell _ (wArr_at Y (0 + i * 16 + k * 1) (by omega)))) (Gr.refl _) rfl rfl)
      have R6011 := R6010.snoc (n' := 11) rfl (fun vJ _ => vJ = .int .u64 ((X (0 + i * 16 + k * 1) ||| Y (0 + i * 16 + k * 1) : Nat) : Int)) rfl (fun _ _ _ _ h => h) (fun aS wS pS => by
          have eR60_4 : aS.eval (.tmp 17) = .int .u64 ((X (0 + i * 16 + k * 1) : Nat) : Int) := pS.pre 4 rfl
          have eR60_9 : aS.eval (.tmp 22) = .int .u64 ((Y (0 + i * 16 + k * 1) : Nat) : Int) := pS.pre 9 rfl
          exact Does.val (wn _ rfl) (o_orU (eR60_4) (eR60_9) (hX _) (hY _)) (Gr.refl _) rfl rfl)
      have R6012 := R6011.snoc (n' := 12) rfl (fun vJ _ => vJ = .pointer (some ⟨b3, 0 + i * 16, none⟩)) rfl (fun _ _ _ _ h => h) (fun aS wS pS => by
          have eR60_0 : aS.eval (.tmp 13) = .int .i64 (i : Int) := pS.pre 0 rfl
          exact Does.val (wn _ rfl) (o_iaA (i := i) (s := 16) ((pS.old 2 rfl).trans e62) (eR60_0) Try.underlying86 (by kernel_rfl) (by omega)) (Gr.refl _) rfl rfl)
      have R6013 := R6012.snoc (n' := 13) rfl (fun vJ _ => vJ = .pointer (some ⟨b3, 0 + i * 16 + k * 1, none⟩)) rfl (fun _ _ _ _ h => h) (fun aS wS pS => by
          have eR60_1 : aS.eval (.tmp 14) = .int .i64 (k : Int) := pS.pre 1 rfl
          have eR60_11 : aS.eval (.tmp 24) = .pointer (some ⟨b3, 0 + i * 16, none⟩) := pS.pre 11 rfl
          exact Does.val (wn _ rfl) (o_iaA (i := k) (s := 1) (eR60_11) (eR60_1) Try.underlying84 (by kernel_rfl) (by omega)) (Gr.refl _) rfl rfl)
      refine R6013.run (k := 1) (L := #[true, true, true, true, true, true, true, true, true, true, true, true, true, false]) (by kernel_rfl) (by kernel_rfl) (by kernel_rfl) n59.ok (by kernel_rfl) (by kernel_rfl) (fun ap65 w66 p65 => ?_)
      have g67 := gr_drew p65.gr
      have G68 := GI44.trans g67
      have B69 := kb3I44.gr g67
      have B70 := kb9I44.gr g67
      have B71 := kb17I44.gr g67
      have ep65_12 : ap65.eval (.tmp 25) = .pointer (some ⟨b3, 0 + i * 16 + k * 1, none⟩) := p65.js 12 rfl
      have ep65_10 : ap65.eval (.tmp 23) = .int .u64 ((X (0 + i * 16 + k * 1) ||| Y (0 + i * 16 + k * 1) : Nat) : Int) := p65.js 10 rfl
      refine t_stC (i := 13) (by kernel_rfl) rfl rfl (wn _ rfl) (o_st ep65_12 ep65_10 B69 (upto_get X Y (· ||| ·) _ _ (by omega) (by omega)) (by kernel_rfl) rfl) B69 (fun w72 u73 u73b => ?_)
      have G74 : Gr w w72 := Below.upd G68 l6 u73
      have B75 := B70.upd u73 (Nat.ne_of_gt l12)
      have B76 := B71.upd u73 (Nat.ne_of_gt l20)
      have B77 : Bk w72 b3 (wArr (upto X Y (· ||| ·) (i * 16 + k + 1))) 86 := (by rw [← upto_put X Y (· ||| ·) (i * 16 + k) (0 + i * 16 + k * 1) (by omega)]; exact u73b)
      refine wpAny_done (by kernel_rfl) ?_ _
      refine ib_n ?_
      refine th_n (hK56 _ _ ?_)
      refine wp_region_lit ?_
      have e78 := (p65.old 10 rfl).trans (n59.ne rfl (n58.ne rfl (n53.ne rfl s10I44)))
      refine sv p65.ok rfl (wn _ rfl) rfl (o_add (r := ((k + 1 : Nat) : Int)) e78 ev_const (by omega) (by omega)) (fun an79 n79 => ?_)
      refine sv n79.ok rfl (wn _ rfl) rfl (o_mv n79.at_) (fun an80 n80 => ?_)
      refine wpList_nil ?_
      have e81 := n80.ne rfl (n79.ne rfl ((p65.old 2 rfl).trans e62))
      have e82 := n80.ne rfl (n79.ne rfl ((p65.old 3 rfl).trans e63))
      have e83 := n80.ne rfl (n79.ne rfl ((p65.old 4 rfl).trans (n59.ne rfl (n58.ne rfl (n53.ne rfl s4I44)))))
      have e84 := n80.ne rfl (n79.ne rfl ((p65.old 5 rfl).trans e61))
      have e85 := n80.ne rfl (n79.ne rfl ((p65.old 7 rfl).trans (n59.ne rfl (n58.ne rfl (n53.ne rfl s7I44)))))
      exact th_n (hKI44 _ _ _ (by omega) ⟨k + 1, rfl, n80.ok, G74, e81, e82, e83, e84, e85, n80.at_, B77, B75, B76, by omega⟩)
    · refine wp_cond_false ((n53.at_).trans (congrArg Value.bool (decide_eq_false c55))) ?_
      refine wp_exit ?_
      refine th_x ?_
      refine th_x ?_
      refine ib_x ?_
      refine ib_n ?_
      refine th_n (hK38 _ _ ?_)
      refine wp_region_lit ?_
      refine sv n53.ok rfl (wn _ rfl) rfl (o_add (r := ((i + 1 : Nat) : Int)) (n53.ne rfl s7I44) ev_const (by omega) (by omega)) (fun an86 n86 => ?_)
      refine sv n86.ok rfl (wn _ rfl) rfl (o_mv n86.at_) (fun an87 n87 => ?_)
      refine wpList_nil ?_
      have e88 := n87.ne rfl (n86.ne rfl (n53.ne rfl s2I44))
      have e89 := n87.ne rfl (n86.ne rfl (n53.ne rfl s3I44))
      have e90 := n87.ne rfl (n86.ne rfl (n53.ne rfl s4I44))
      exact th_n (hKI29 _ _ _ (by omega) ⟨i + 1, rfl, n87.ok, GI44, e88, e89, e90, n87.at_, (by rw [show (i + 1) * 16 = i * 16 + k by omega]; exact kb3I44), kb9I44, kb17I44, by omega⟩)
  · refine wp_cond_false ((n35.at_).trans (congrArg Value.bool (decide_eq_false c37))) ?_
    refine wp_exit ?_
    refine th_x ?_
    refine th_x ?_
    refine ib_x ?_
    refine th_n (hK26 _ _ ?_)
    refine wp_seq_k (fun K91 hK91 => ?_)
    refine wp_region_lit ?_
    refine sv n35.ok rfl (wn _ rfl) rfl (o_ldR (n35.ne rfl s2I29) kb3I29 Try.underlying86 rfl (dots_sz (upto X Y (· ||| ·) (i * 16)))) (fun an92 n92 => ?_)
    refine ssR rfl (wn _ rfl) (o_stR (n92.ne rfl (n35.ne rfl s4I29)) n92.at_ kb17I29 (dots_sz (upto X Y (· ||| ·) (i * 16))) (by rw [wArr_size, wArr_size]) (wArr_one (upto X Y (· ||| ·) (i * 16)))) kb17I29 (fun w93 u94 u94b => ?_)
    have G95 : Gr w w93 := Below.upd GI29 l22 u94
    have B96 := kb3I29.upd u94 (Nat.ne_of_lt l20)
    have B97 := kb9I29.upd u94 (Nat.ne_of_lt l21)
    refine wpList_nil ?_
    refine th_n (hK91 _ _ ?_)
    refine wp_ret ?_
    exact ret1 n92.ok rfl (⟨_, _, (n92.ne rfl (n35.ne rfl s4I29)), ld_row u94b Try.underlying86 rfl (dots_sz (upto X Y (· ||| ·) (i * 16)))⟩) ⟨by rw [wArr_ext fun j hj => upto_lt X Y (· ||| ·) _ j (by omega)], G95⟩
set_option maxHeartbeats 8000000 in
set_option maxRecDepth 100000 in
theorem dmeet_any (X Y : Nat → Nat) (hX : OkX X) (hY : OkX Y) (w : World) :
    Calls Try.prog 50 #[.agg (wArr X), .agg (wArr Y)] w fun e w' => e = .returned (.agg (wArr fun i => X i &&& Y i)) ∧ Gr w w' := by
  refine enter (N := 29) Try.func50 rfl rfl rfl (fun a0 ok0 h0 => ?_)
  have e0_0 : a0.eval (.tmp 0) = .agg (wArr X) := h0 0 _ rfl
  have e0_1 : a0.eval (.tmp 1) = .agg (wArr Y) := h0 1 _ rfl
  clear h0
  have G0 := Gr.refl w
  refine wp_seq_k (fun K1 hK1 => ?_)
  refine wp_region_lit ?_
  refine sal (cs := wArr X) ok0 rfl (wn _ rfl) rfl (o_box e0_0) (fun an2 w4 b3 W5 n2 => ?_)
  have l6 : w.heap.size ≤ b3 := by rw [W5.eq]; exact G0.size
  have G7 := G0.trans W5.gr
  refine sal (cs := wArr Y) n2.ok rfl (wn _ rfl) rfl (o_box (n2.ne rfl e0_1)) (fun an8 w10 b9 W11 n8 => ?_)
  have l12 : b3 < b9 := by rw [W11.eq]; exact W5.bk.lt
  have l13 : w.heap.size ≤ b9 := by rw [W11.eq]; exact G7.size
  have G14 := G7.trans W11.gr
  have B15 := W5.bk.gr W11.gr
  refine sal (cs := wArr (fun _ => 0)) n8.ok rfl (wn _ rfl) rfl (o_al (z := .agg (wArr (fun _ => 0))) dots_zero) (fun an16 w18 b17 W19 n16 => ?_)
  have l20 : b3 < b17 := by rw [W19.eq]; exact B15.lt
  have l21 : b9 < b17 := by rw [W19.eq]; exact W11.bk.lt
  have l22 : w.heap.size ≤ b17 := by rw [W19.eq]; exact G14.size
  have G23 := G14.trans W19.gr
  have B24 := B15.gr W19.gr
  have B25 := W11.bk.gr W19.gr
  refine wpList_nil ?_
  refine th_n (hK1 _ _ ?_)
  refine wp_seq_k (fun K26 hK26 => ?_)
  refine wp_seq_k (fun K27 hK27 => ?_)
  refine wp_region_lit ?_
  refine sv n16.ok rfl (wn _ rfl) rfl (o_mv ev_const) (fun an28 n28 => ?_)
  refine wpList_nil ?_
  refine th_n (hK27 _ _ ?_)
  refine wp_block ?_
  have e30 := n28.ne rfl (n16.ne rfl (n8.ne rfl n2.at_))
  refine lp (fun (nL : Nat) (aL : Act) (wL : World) => ∃ i : Nat, nL = 5 - i ∧ Ok 29 aL ∧ Gr w wL ∧ (aL.eval (.tmp 2) = .pointer (some ⟨b3, 0, none⟩)) ∧ (aL.eval (.tmp 3) = .pointer (some ⟨b9, 0, none⟩)) ∧ (aL.eval (.tmp 4) = .pointer (some ⟨b17, 0, none⟩)) ∧ (aL.eval (.tmp 7) = .int .i64 (i : Int)) ∧ (Bk wL b3 (wArr (upto X Y (· &&& ·) (i * 16))) 86) ∧ (Bk wL b9 (wArr Y) 86) ∧ (Bk wL b17 (wArr (fun _ => 0)) 86) ∧ (i ≤ 5)) _ ⟨0, rfl, n28.ok, G23, e30, (n28.ne rfl (n16.ne rfl n8.at_)), (n28.ne rfl n16.at_), n28.at_, (by rw [Nat.zero_mul, upto_zero]; exact B24), B25, W19.bk, by omega⟩ ?_
  rintro m31 aI29 w33 ⟨i, hmI29, okI29, GI29, s2I29, s3I29, s4I29, s7I29, kb3I29, kb9I29, kb17I29, hiI29⟩ KI29 hKI29
  refine wp_seq_k (fun K34 hK34 => ?_)
  refine wp_region_lit ?_
  refine sv okI29 rfl (wn _ rfl) rfl (o_ltI s7I29 ev_const) (fun an35 n35 => ?_)
  refine wpList_nil ?_
  refine th_n (hK34 _ _ ?_)
  refine wp_seq_k (fun K36 hK36 => ?_)
  by_cases c37 : (i : Int) < 5
  · refine wp_cond_true ((n35.at_).trans (congrArg Value.bool (decide_eq_true c37))) ?_
    refine wp_skip ?_
    refine th_n (hK36 _ _ ?_)
    refine wp_seq_k (fun K38 hK38 => ?_)
    refine wp_block ?_
    refine wp_seq_k (fun K39 hK39 => ?_)
    refine wp_region_lit ?_
    refine sv n35.ok rfl (wn _ rfl) rfl (o_mv (n35.ne rfl s7I29)) (fun an40 n40 => ?_)
    refine sv n40.ok rfl (wn _ rfl) rfl (o_as n40.at_) (fun an41 n41 => ?_)
    refine wpList_nil ?_
    refine th_n (hK39 _ _ ?_)
    refine wp_seq_k (fun K42 hK42 => ?_)
    refine wp_region_lit ?_
    refine sv n41.ok rfl (wn _ rfl) rfl (o_mv ev_const) (fun an43 n43 => ?_)
    refine wpList_nil ?_
    refine th_n (hK42 _ _ ?_)
    refine wp_block ?_
    have e45 := n43.ne rfl (n41.ne rfl (n40.ne rfl (n35.ne rfl s2I29)))
    have e46 := n43.ne rfl (n41.ne rfl (n40.ne rfl (n35.ne rfl s3I29)))
    have e47 := n43.ne rfl (n41.ne rfl (n40.ne rfl (n35.ne rfl s4I29)))
    have e48 := n43.ne rfl (n41.ne rfl (n40.ne rfl (n35.ne rfl s7I29)))
    refine lp (fun (nL : Nat) (aL : Act) (wL : World) => ∃ k : Nat, nL = 16 - k ∧ Ok 29 aL ∧ Gr w wL ∧ (aL.eval (.tmp 2) = .pointer (some ⟨b3, 0, none⟩)) ∧ (aL.eval (.tmp 3) = .pointer (some ⟨b9, 0, none⟩)) ∧ (aL.eval (.tmp 4) = .pointer (some ⟨b17, 0, none⟩)) ∧ (aL.eval (.tmp 5) = .int .i64 (i : Int)) ∧ (aL.eval (.tmp 7) = .int .i64 (i : Int)) ∧ (aL.eval (.tmp 10) = .int .i64 (k : Int)) ∧ (Bk wL b3 (wArr (upto X Y (· &&& ·) (i * 16 + k))) 86) ∧ (Bk wL b9 (wArr Y) 86) ∧ (Bk wL b17 (wArr (fun _ => 0)) 86) ∧ (k ≤ 16)) _ ⟨0, rfl, n43.ok, GI29, e45, e46, e47, (n43.ne rfl n41.at_), e48, n43.at_, kb3I29, kb9I29, kb17I29, by omega⟩ ?_
    rintro m49 aI44 w51 ⟨k, hmI44, okI44, GI44, s2I44, s3I44, s4I44, s5I44, s7I44, s10I44, kb3I44, kb9I44, kb17I44, hkI44⟩ KI44 hKI44
    refine wp_seq_k (fun K52 hK52 => ?_)
    refine wp_region_lit ?_
    refine sv okI44 rfl (wn _ rfl) rfl (o_ltI s10I44 ev_const) (fun an53 n53 => ?_)
    refine wpList_nil ?_
    refine th_n (hK52 _ _ ?_)
    refine wp_seq_k (fun K54 hK54 => ?_)
    by_cases c55 : (k : Int) < 16
    · refine wp_cond_true ((n53.at_).trans (congrArg Value.bool (decide_eq_true c55))) ?_
      refine wp_skip ?_
      refine th_n (hK54 _ _ ?_)
      refine wp_seq_k (fun K56 hK56 => ?_)
      refine wp_block ?_
      refine wp_seq_k (fun K57 hK57 => ?_)
      refine wp_region_lit ?_
      refine sv n53.ok rfl (wn _ rfl) rfl (o_mv (n53.ne rfl s10I44)) (fun an58 n58 => ?_)
      refine sv n58.ok rfl (wn _ rfl) rfl (o_as n58.at_) (fun an59 n59 => ?_)
      refine wpList_nil ?_
      refine th_n (hK57 _ _ ?_)
      refine reg_start (N := 29) (m := 13) (by kernel_rfl) (fun R600 => ?_)
      have e61 := n59.ne rfl (n58.ne rfl (n53.ne rfl s5I44))
      have R601 := R600.snoc (n' := 1) rfl (fun vJ _ => vJ = .int .i64 (i : Int)) rfl (fun _ _ _ _ h => h) (fun aS wS pS => by
          exact Does.val (wn _ rfl) (o_mv ((pS.old 5 rfl).trans e61)) (Gr.refl _) rfl rfl)
      have R602 := R601.snoc (n' := 2) rfl (fun vJ _ => vJ = .int .i64 (k : Int)) rfl (fun _ _ _ _ h => h) (fun aS wS pS => by
          exact Does.val (wn _ rfl) (o_mv ((pS.old 6 rfl).trans n59.at_)) (Gr.refl _) rfl rfl)
      have e62 := n59.ne rfl (n58.ne rfl (n53.ne rfl s2I44))
      have R603 := R602.snoc (n' := 3) rfl (fun vJ _ => vJ = .pointer (some ⟨b3, 0 + i * 16, none⟩)) rfl (fun _ _ _ _ h => h) (fun aS wS pS => by
          have eR60_0 : aS.eval (.tmp 13) = .int .i64 (i : Int) := pS.pre 0 rfl
          exact Does.val (wn _ rfl) (o_iaA (i := i) (s := 16) ((pS.old 2 rfl).trans e62) (eR60_0) Try.underlying86 (by kernel_rfl) (by omega)) (Gr.refl _) rfl rfl)
      have R604 := R603.snoc (n' := 4) rfl (fun vJ _ => vJ = .pointer (some ⟨b3, 0 + i * 16 + k * 1, none⟩)) rfl (fun _ _ _ _ h => h) (fun aS wS pS => by
          have eR60_1 : aS.eval (.tmp 14) = .int .i64 (k : Int) := pS.pre 1 rfl
          have eR60_2 : aS.eval (.tmp 15) = .pointer (some ⟨b3, 0 + i * 16, none⟩) := pS.pre 2 rfl
          exact Does.val (wn _ rfl) (o_iaA (i := k) (s := 1) (eR60_2) (eR60_1) Try.underlying84 (by kernel_rfl) (by omega)) (Gr.refl _) rfl rfl)
      have R605 := R604.snoc (n' := 5) rfl (fun vJ _ => vJ = .int .u64 ((X (0 + i * 16 + k * 1) : Nat) : Int)) rfl (fun _ _ _ _ h => h) (fun aS wS pS => by
          have eR60_3 : aS.eval (.tmp 16) = .pointer (some ⟨b3, 0 + i * 16 + k * 1, none⟩) := pS.pre 3 rfl
          exact Does.val (wn _ rfl) (o_ld (eR60_3) (Try.isAgg83 _) ((Bk.gr kb3I44 (gr_drew pS.gr)).cell _ (upto_get X Y (· &&& ·) _ _ (by omega) (by omega)))) (Gr.refl _) rfl rfl)
      have R606 := R605.snoc (n' := 6) rfl (fun vJ _ => vJ = .int .i64 (i : Int)) rfl (fun _ _ _ _ h => h) (fun aS wS pS => by
          exact Does.val (wn _ rfl) (o_mv ((pS.old 5 rfl).trans e61)) (Gr.refl _) rfl rfl)
      have R607 := R606.snoc (n' := 7) rfl (fun vJ _ => vJ = .int .i64 (k : Int)) rfl (fun _ _ _ _ h => h) (fun aS wS pS => by
          exact Does.val (wn _ rfl) (o_mv ((pS.old 6 rfl).trans n59.at_)) (Gr.refl _) rfl rfl)
      have e63 := n59.ne rfl (n58.ne rfl (n53.ne rfl s3I44))
      have R608 := R607.snoc (n' := 8) rfl (fun vJ _ => vJ = .pointer (some ⟨b9, 0 + i * 16, none⟩)) rfl (fun _ _ _ _ h => h) (fun aS wS pS => by
          have eR60_5 : aS.eval (.tmp 18) = .int .i64 (i : Int) := pS.pre 5 rfl
          exact Does.val (wn _ rfl) (o_iaA (i := i) (s := 16) ((pS.old 3 rfl).trans e63) (eR60_5) Try.underlying86 (by kernel_rfl) (by omega)) (Gr.refl _) rfl rfl)
      have R609 := R608.snoc (n' := 9) rfl (fun vJ _ => vJ = .pointer (some ⟨b9, 0 + i * 16 + k * 1, none⟩)) rfl (fun _ _ _ _ h => h) (fun aS wS pS => by
          have eR60_6 : aS.eval (.tmp 19) = .int .i64 (k : Int) := pS.pre 6 rfl
          have eR60_7 : aS.eval (.tmp 20) = .pointer (some ⟨b9, 0 + i * 16, none⟩) := pS.pre 7 rfl
          exact Does.val (wn _ rfl) (o_iaA (i := k) (s := 1) (eR60_7) (eR60_6) Try.underlying84 (by kernel_rfl) (by omega)) (Gr.refl _) rfl rfl)
      have R6010 := R609.snoc (n' := 10) rfl (fun vJ _ => vJ = .int .u64 ((Y (0 + i * 16 + k * 1) : Nat) : Int)) rfl (fun _ _ _ _ h => h) (fun aS wS pS => by
          have eR60_8 : aS.eval (.tmp 21) = .pointer (some ⟨b9, 0 + i * 16 + k * 1, none⟩) := pS.pre 8 rfl
          exact Does.val (wn _ rfl) (o_ld (eR60_8) (Try.isAgg83 _) ((Bk.gr kb9I44 (gr_drew pS.gr)).cell _ (wArr_at Y (0 + i * 16 + k * 1) (by omega)))) (Gr.refl _) rfl rfl)
      have R6011 := R6010.snoc (n' := 11) rfl (fun vJ _ => vJ = .int .u64 ((X (0 + i * 16 + k * 1) &&& Y (0 + i * 16 + k * 1) : Nat) : Int)) rfl (fun _ _ _ _ h => h) (fun aS wS pS => by
          have eR60_4 : aS.eval (.tmp 17) = .int .u64 ((X (0 + i * 16 + k * 1) : Nat) : Int) := pS.pre 4 rfl
          have eR60_9 : aS.eval (.tmp 22) = .int .u64 ((Y (0 + i * 16 + k * 1) : Nat) : Int) := pS.pre 9 rfl
          exact Does.val (wn _ rfl) (o_andU (eR60_4) (eR60_9) (hX _) (hY _)) (Gr.refl _) rfl rfl)
      have R6012 := R6011.snoc (n' := 12) rfl (fun vJ _ => vJ = .pointer (some ⟨b3, 0 + i * 16, none⟩)) rfl (fun _ _ _ _ h => h) (fun aS wS pS => by
          have eR60_0 : aS.eval (.tmp 13) = .int .i64 (i : Int) := pS.pre 0 rfl
          exact Does.val (wn _ rfl) (o_iaA (i := i) (s := 16) ((pS.old 2 rfl).trans e62) (eR60_0) Try.underlying86 (by kernel_rfl) (by omega)) (Gr.refl _) rfl rfl)
      have R6013 := R6012.snoc (n' := 13) rfl (fun vJ _ => vJ = .pointer (some ⟨b3, 0 + i * 16 + k * 1, none⟩)) rfl (fun _ _ _ _ h => h) (fun aS wS pS => by
          have eR60_1 : aS.eval (.tmp 14) = .int .i64 (k : Int) := pS.pre 1 rfl
          have eR60_11 : aS.eval (.tmp 24) = .pointer (some ⟨b3, 0 + i * 16, none⟩) := pS.pre 11 rfl
          exact Does.val (wn _ rfl) (o_iaA (i := k) (s := 1) (eR60_11) (eR60_1) Try.underlying84 (by kernel_rfl) (by omega)) (Gr.refl _) rfl rfl)
      refine R6013.run (k := 1) (L := #[true, true, true, true, true, true, true, true, true, true, true, true, true, false]) (by kernel_rfl) (by kernel_rfl) (by kernel_rfl) n59.ok (by kernel_rfl) (by kernel_rfl) (fun ap65 w66 p65 => ?_)
      have g67 := gr_drew p65.gr
      have G68 := GI44.trans g67
      have B69 := kb3I44.gr g67
      have B70 := kb9I44.gr g67
      have B71 := kb17I44.gr g67
      have ep65_12 : ap65.eval (.tmp 25) = .pointer (some ⟨b3, 0 + i * 16 + k * 1, none⟩) := p65.js 12 rfl
      have ep65_10 : ap65.eval (.tmp 23) = .int .u64 ((X (0 + i * 16 + k * 1) &&& Y (0 + i * 16 + k * 1) : Nat) : Int) := p65.js 10 rfl
      refine t_stC (i := 13) (by kernel_rfl) rfl rfl (wn _ rfl) (o_st ep65_12 ep65_10 B69 (upto_get X Y (· &&& ·) _ _ (by omega) (by omega)) (by kernel_rfl) rfl) B69 (fun w72 u73 u73b => ?_)
      have G74 : Gr w w72 := Below.upd G68 l6 u73
      have B75 := B70.upd u73 (Nat.ne_of_gt l12)
      have B76 := B71.upd u73 (Nat.ne_of_gt l20)
      have B77 : Bk w72 b3 (wArr (upto X Y (· &&& ·) (i * 16 + k + 1))) 86 := (by rw [← upto_put X Y (· &&& ·) (i * 16 + k) (0 + i * 16 + k * 1) (by omega)]; exact u73b)
      refine wpAny_done (by kernel_rfl) ?_ _
      refine ib_n ?_
      refine th_n (hK56 _ _ ?_)
      refine wp_region_lit ?_
      have e78 := (p65.old 10 rfl).trans (n59.ne rfl (n58.ne rfl (n53.ne rfl s10I44)))
      refine sv p65.ok rfl (wn _ rfl) rfl (o_add (r := ((k + 1 : Nat) : Int)) e78 ev_const (by omega) (by omega)) (fun an79 n79 => ?_)
      refine sv n79.ok rfl (wn _ rfl) rfl (o_mv n79.at_) (fun an80 n80 => ?_)
      refine wpList_nil ?_
      have e81 := n80.ne rfl (n79.ne rfl ((p65.old 2 rfl).trans e62))
      have e82 := n80.ne rfl (n79.ne rfl ((p65.old 3 rfl).trans e63))
      have e83 := n80.ne rfl (n79.ne rfl ((p65.old 4 rfl).trans (n59.ne rfl (n58.ne rfl (n53.ne rfl s4I44)))))
      have e84 := n80.ne rfl (n79.ne rfl ((p65.old 5 rfl).trans e61))
      have e85 := n80.ne rfl (n79.ne rfl ((p65.old 7 rfl).trans (n59.ne rfl (n58.ne rfl (n53.ne rfl s7I44)))))
      exact th_n (hKI44 _ _ _ (by omega) ⟨k + 1, rfl, n80.ok, G74, e81, e82, e83, e84, e85, n80.at_, B77, B75, B76, by omega⟩)
    · refine wp_cond_false ((n53.at_).trans (congrArg Value.bool (decide_eq_false c55))) ?_
      refine wp_exit ?_
      refine th_x ?_
      refine th_x ?_
      refine ib_x ?_
      refine ib_n ?_
      refine th_n (hK38 _ _ ?_)
      refine wp_region_lit ?_
      refine sv n53.ok rfl (wn _ rfl) rfl (o_add (r := ((i + 1 : Nat) : Int)) (n53.ne rfl s7I44) ev_const (by omega) (by omega)) (fun an86 n86 => ?_)
      refine sv n86.ok rfl (wn _ rfl) rfl (o_mv n86.at_) (fun an87 n87 => ?_)
      refine wpList_nil ?_
      have e88 := n87.ne rfl (n86.ne rfl (n53.ne rfl s2I44))
      have e89 := n87.ne rfl (n86.ne rfl (n53.ne rfl s3I44))
      have e90 := n87.ne rfl (n86.ne rfl (n53.ne rfl s4I44))
      exact th_n (hKI29 _ _ _ (by omega) ⟨i + 1, rfl, n87.ok, GI44, e88, e89, e90, n87.at_, (by rw [show (i + 1) * 16 = i * 16 + k by omega]; exact kb3I44), kb9I44, kb17I44, by omega⟩)
  · refine wp_cond_false ((n35.at_).trans (congrArg Value.bool (decide_eq_false c37))) ?_
    refine wp_exit ?_
    refine th_x ?_
    refine th_x ?_
    refine ib_x ?_
    refine th_n (hK26 _ _ ?_)
    refine wp_seq_k (fun K91 hK91 => ?_)
    refine wp_region_lit ?_
    refine sv n35.ok rfl (wn _ rfl) rfl (o_ldR (n35.ne rfl s2I29) kb3I29 Try.underlying86 rfl (dots_sz (upto X Y (· &&& ·) (i * 16)))) (fun an92 n92 => ?_)
    refine ssR rfl (wn _ rfl) (o_stR (n92.ne rfl (n35.ne rfl s4I29)) n92.at_ kb17I29 (dots_sz (upto X Y (· &&& ·) (i * 16))) (by rw [wArr_size, wArr_size]) (wArr_one (upto X Y (· &&& ·) (i * 16)))) kb17I29 (fun w93 u94 u94b => ?_)
    have G95 : Gr w w93 := Below.upd GI29 l22 u94
    have B96 := kb3I29.upd u94 (Nat.ne_of_lt l20)
    have B97 := kb9I29.upd u94 (Nat.ne_of_lt l21)
    refine wpList_nil ?_
    refine th_n (hK91 _ _ ?_)
    refine wp_ret ?_
    exact ret1 n92.ok rfl (⟨_, _, (n92.ne rfl (n35.ne rfl s4I29)), ld_row u94b Try.underlying86 rfl (dots_sz (upto X Y (· &&& ·) (i * 16)))⟩) ⟨by rw [wArr_ext fun j hj => upto_lt X Y (· &&& ·) _ j (by omega)], G95⟩
end Go.Proofs.Ytghjfakellaecaa
