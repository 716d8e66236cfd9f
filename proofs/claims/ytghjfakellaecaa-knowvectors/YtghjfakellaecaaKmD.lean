/- Equal words; small sets that are written out. -/
import Derived.Test.YtghjfakellaecaaKmC
set_option linter.unusedVariables false
set_option linter.unusedSimpArgs false
namespace Rm
open Go Go.RowKit Gx
/-- all words are the same -/
def eqX (X Y : Nat → Nat) : Bool := (List.range 5).all fun i => (List.range 16).all fun k => ((X (i * 16 + k) : Nat) : Int) == ((Y (i * 16 + k) : Nat) : Int)
theorem eqX_iff (X Y : Nat → Nat) : eqX X Y = true ↔ ∀ s, s < 5 → ∀ k, k < 16 → X (s * 16 + k) = Y (s * 16 + k) := by
  unfold eqX
  simp only [List.all_eq_true, List.mem_range, beq_iff_eq]
  constructor
  · intro h s hs k hk; have := h s hs k hk; omega
  · intro h s hs k hk; have := h s hs k hk; omega
theorem eqX_bits {X Y : Nat → Nat} (hX : OkX X) (hY : OkX Y) : eqX X Y = true ↔ ∀ s c, s < 5 → c < 1024 → dsX X s c = dsX Y s c := by
  rw [eqX_iff]
  constructor
  · intro h s c hs hc
    unfold dsX
    rw [h s hs (c / 64) (by omega)]
  · intro h s hs k hk
    apply Nat.eq_of_testBit_eq
    intro j
    rcases Nat.lt_or_ge j 64 with q | q
    · have := h s (k * 64 + j) hs (by omega)
      unfold dsX at this
      rw [show (k * 64 + j) / 64 = k by omega, show (k * 64 + j) % 64 = j by omega] at this
      exact this
    · rw [Nat.testBit_lt_two_pow (Nat.lt_of_lt_of_le (hX _) (Nat.pow_le_pow_right (by omega) q)), Nat.testBit_lt_two_pow (Nat.lt_of_lt_of_le (hY _) (Nat.pow_le_pow_right (by omega) q))]
theorem or_eqD {X Y : Nat → Nat} {v v' : List Nat} {m m' : List (Nat × Nat)} (h : ∀ s q, s < 5 → q < 1024 → dsX X s q = memB v m s q) (h' : ∀ s q, s < 5 → q < 1024 → dsX Y s q = memB v' m' s q) : EqD (dsX (fun i => X i ||| Y i)) (orD (memB v m) (memB v' m')) := fun s c hi => by
  have hc : c < 1024 := by have := hi.2.2; omega
  rw [dsX_or]; unfold orD; rw [h s c hi.1 hc, h' s c hi.1 hc]
theorem and_eqD {X Y : Nat → Nat} {v v' : List Nat} {m m' : List (Nat × Nat)} (h : ∀ s q, s < 5 → q < 1024 → dsX X s q = memB v m s q) (h' : ∀ s q, s < 5 → q < 1024 → dsX Y s q = memB v' m' s q) : EqD (dsX (fun i => X i &&& Y i)) (andD (memB v m) (memB v' m')) := fun s c hi => by
  have hc : c < 1024 := by have := hi.2.2; omega
  rw [dsX_and]; unfold andD; rw [h s c hi.1 hc, h' s c hi.1 hc]
theorem within_eqX {X Y : Nat → Nat} {v v' : List Nat} {m m' : List (Nat × Nat)} (hX : OkX X) (hY : OkX Y) (ok : OkV v m) (ok' : OkV v' m') (h : ∀ s q, s < 5 → q < 1024 → dsX X s q = memB v m s q) (h' : ∀ s q, s < 5 → q < 1024 → dsX Y s q = memB v' m' s q) :
    eqX (fun i => X i ||| Y i) Y = withB v v' m m' := by
  rw [Bool.eq_iff_iff, withB_iff ok ok', eqX_bits (hX.or hY) hY]
  constructor
  · intro q s c hi hm
    have hc : c < 1024 := by have := hi.2.2; omega
    have := q s c hi.1 hc
    rw [dsX_or] at this
    unfold orD at this
    rw [h s c hi.1 hc, h' s c hi.1 hc, hm] at this
    simpa using this.symm
  · intro q s c hs hc
    rw [dsX_or]
    unfold orD
    rw [h s c hs hc, h' s c hs hc]
    cases e : memB v m s c
    · simp
    · have := q s c (ok.inR e) e
      rw [this]; rfl
/-- vec [1] joined with the dot 2 is vec [2] -/
theorem form_12 : frE (orD (memB [1] []) (memB [] [(0, 2)])) = 0 ∧ frV (orD (memB [1] []) (memB [] [(0, 2)])) = [2] ∧ frM (orD (memB [1] []) (memB [] [(0, 2)])) = [] := by
  have hok : OkV [2] [] := ⟨by simp, by simp, by simp, by simp, by simp⟩
  have he : EqD (memB [2] []) (orD (memB [1] []) (memB [] [(0, 2)])) := by
    intro s c hi
    have h1 := hi.2.1
    rw [Bool.eq_iff_iff]
    unfold orD
    rw [Bool.or_eq_true, memB_iff, memB_iff, memB_iff]
    simp only [List.not_mem_nil, or_false, List.mem_singleton, Prod.mk.injEq]
    match s with
    | 0 => simp [cv]; omega
    | s + 1 => simp [cv]
  obtain ⟨h1, h2⟩ := hok.form he
  unfold frE frV frM
  rw [h1, h2]
  simp
end Rm
namespace Go.Proofs.Ytghjfakellaecaa
open Go.RowKit Rm Gx
theorem eqItems_step {D : Nat} {e : TypeId} {n i : Nat} {xs ys : Array Value} {is : List Nat} {u v : Value} {b r : Bool} {w : World} (p1 : (part e xs (i * n)).run Try.prog w = .ok u w) (p2 : (part e ys (i * n)).run Try.prog w = .ok v w)
    (hb : (Op.equalIn D e u v).run Try.prog w = .ok b w) (hr : (Op.eqItems D e n xs ys is).run Try.prog w = .ok r w) : (Op.eqItems D e n xs ys (i :: is)).run Try.prog w = .ok (b && r) w := by
  simp only [Op.eqItems, Sem.run_bind, p1, p2, hb, Result.andThen_ok]
  cases b
  · simp
  · simp [hr]
theorem u64_cells : Try.prog.cellsOf 83 = 1 := by kernel_rfl
theorem row_cells : Try.prog.cellsOf 84 = 16 := by kernel_rfl
theorem wRow_at (X : Nat → Nat) (i k : Nat) (hi : i < 5) (hk : k < 16) : ((wArr X).extract (i * 16) (i * 16 + 16))[k]? = some (.int .u64 ((X (i * 16 + k) : Nat) : Int)) := by
  rw [Array.getElem?_extract, if_pos (by rw [wArr_size]; omega)]
  exact wArr_at X _ (by omega)
theorem eqItems_row (d : Nat) (X Y : Nat → Nat) (i : Nat) (hi : i < 5) (w : World) : ∀ is : List Nat, (∀ k ∈ is, k < 16) → (Op.eqItems (d + 1) 83 1 ((wArr X).extract (i * 16) (i * 16 + 16)) ((wArr Y).extract (i * 16) (i * 16 + 16)) is).run Try.prog w = .ok (is.all fun k => ((X (i * 16 + k) : Nat) : Int) == ((Y (i * 16 + k) : Nat) : Int)) w
  | [], _ => by simp [Op.eqItems]
  | k :: is, h => by
    have hk : k < 16 := h k (List.mem_cons_self ..)
    have ih := eqItems_row d X Y i hi w is (fun j hj => h j (List.mem_cons_of_mem _ hj))
    have ha := Try.isAgg83 w
    have p1 : (part 83 ((wArr X).extract (i * 16) (i * 16 + 16)) (k * 1)).run Try.prog w = .ok (.int .u64 ((X (i * 16 + k) : Nat) : Int)) w := by
      unfold part
      rw [Sem.run_bind, ha]
      simp [wRow_at X i k hi hk]
    have p2 : (part 83 ((wArr Y).extract (i * 16) (i * 16 + 16)) (k * 1)).run Try.prog w = .ok (.int .u64 ((Y (i * 16 + k) : Nat) : Int)) w := by
      unfold part
      rw [Sem.run_bind, ha]
      simp [wRow_at Y i k hi hk]
    have p3 : (Op.equalIn (d + 1) 83 (.int .u64 ((X (i * 16 + k) : Nat) : Int)) (.int .u64 ((Y (i * 16 + k) : Nat) : Int))).run Try.prog w = .ok (((X (i * 16 + k) : Nat) : Int) == ((Y (i * 16 + k) : Nat) : Int)) w := by
      simp [Op.equalIn, Sem.run_bind, run_underlying Try.underlying83]
    simp only [Op.eqItems, Sem.run_bind, p1, p2, p3, Result.andThen_ok]
    cases hc : (((X (i * 16 + k) : Nat) : Int) == ((Y (i * 16 + k) : Nat) : Int))
    · simp [hc]
    · simp [hc, ih]
theorem info_some {t : TypeId} {s : Nat} (h : (Try.prog.info? t).map (·.size) = some s) : ∃ i, Try.prog.info? t = some i := by
  cases hq : Try.prog.info? t with
  | none => rw [hq] at h; simp at h
  | some i => exact ⟨i, rfl⟩
theorem eqItems_dots (d : Nat) (X Y : Nat → Nat) (w : World) : ∀ is : List Nat, (∀ i ∈ is, i < 5) → (Op.eqItems (d + 3) 84 16 (wArr X) (wArr Y) is).run Try.prog w = .ok (is.all fun i => (List.range 16).all fun k => ((X (i * 16 + k) : Nat) : Int) == ((Y (i * 16 + k) : Nat) : Int)) w
  | [], _ => by simp [Op.eqItems]
  | i :: is, h => by
    have hi : i < 5 := h i (List.mem_cons_self ..)
    have ih := eqItems_dots d X Y w is (fun j hj => h j (List.mem_cons_of_mem _ hj))
    have ha := Try.isAgg84 w
    have hsz : (Go.sizeOf 84).run Try.prog w = .ok 16 w := size_of (by kernel_rfl) w
    have p1 : ∀ X, (part 84 (wArr X) (i * 16)).run Try.prog w = .ok (.agg ((wArr X).extract (i * 16) (i * 16 + 16))) w := by
      intro X
      unfold part
      rw [Sem.run_bind, ha]
      simp [hsz]
    obtain ⟨q, hq⟩ := info_some (show (Try.prog.info? 83).map (·.size) = some 1 by kernel_rfl)
    have p3 : (Op.equalIn (d + 3) 84 (.agg ((wArr X).extract (i * 16) (i * 16 + 16))) (.agg ((wArr Y).extract (i * 16) (i * 16 + 16)))).run Try.prog w = .ok ((List.range 16).all fun k => ((X (i * 16 + k) : Nat) : Int) == ((Y (i * 16 + k) : Nat) : Int)) w := by
      rw [run_equalIn_array (P := Try.prog) w (d + 2) _ _ Try.underlying84 hq, u64_cells]
      exact eqItems_row (d + 1) X Y i hi w (List.range 16) (fun k hk => List.mem_range.1 hk)
    rw [List.all_cons]
    exact eqItems_step (p1 X) (p1 Y) p3 ih
theorem eq_dots (X Y : Nat → Nat) (w : World) : (Op.equal 86 (.agg (wArr X)) (.agg (wArr Y))).run Try.prog w = .ok (eqX X Y) w := by
  obtain ⟨q, hq⟩ := info_some (show (Try.prog.info? 84).map (·.size) = some 16 by kernel_rfl)
  show (Op.equalIn 10000 86 (.agg (wArr X)) (.agg (wArr Y))).run Try.prog w = _
  rw [run_equalIn_array (P := Try.prog) w 9999 (wArr X) (wArr Y) Try.underlying86 hq, row_cells]
  exact eqItems_dots 9996 X Y w (List.range 5) (fun i hi => List.mem_range.1 hi)
theorem dots_noGuard (w : World) (x y : Operand) (X Y : Nat → Nat) : (eqGuard .eql 86 x y (.agg (wArr X)) (.agg (wArr Y))).run Try.prog w = .ok () w := by
  exact run_eqGuard_agg w .eql _ x y _ _ (by kernel_rfl)
section
variable {ev : Operand → Value} {d : Option Tmp} {ty : TypeId} {p : String} {af : Array Edge} {g : Option (Nat × Bool)} {w : World}
theorem o_eqDots {t' : TypeId} {x y : Operand} {X Y : Nat → Nat} {b : Bool} (hx : ev x = .agg (wArr X)) (hy : ev y = .agg (wArr Y)) (hb : eqX X Y = b) : (execOp ev (Oper.mk d (.binOp .eql 86 x y t') ty p af g)).run Try.prog w = .ok (.value (.bool b)) w := by
  subst hb
  have h1 := dots_noGuard w x y X Y
  have h2 := eq_dots X Y w
  unfold execOp
  simp only [hx, hy, Sem.run_bind, h1, Result.andThen_ok, binOp, h2]
  rfl
end
theorem r1_bk {w : World} {b : Nat} {V : List Int} {cs : Array Value} {t : TypeId} (h : Bk w b cs t) (hc : cs = (V.map (Value.int .i64)).toArray) : R1 w (.slice (some ⟨b, 0, none⟩) V.length V.length) V :=
  ⟨_, _, rfl, Nat.le_refl _, fun _ => ⟨b, 0, rfl, h.lt, fun i x hx => by
    rw [Nat.zero_add]
    exact h.cell i (by subst hc; simp [hx])⟩⟩
theorem rdC_bk {w : World} {b : Nat} {M : List (Int × Int)} {cs : Array Value} {t : TypeId} (h : Bk w b cs t) (hc : cs = (flat M).toArray) : RdC 2 w (.slice (some ⟨b, 0, none⟩) M.length M.length) M.length (flat M) :=
  ⟨by rw [flat_len], flat_one M, .inr ⟨_, _, rfl, Nat.le_refl _, fun _ => h.lt, fun j u hu => by
    rw [Gx.add_n, Nat.zero_add]
    exact h.cell j (by subst hc; simpa using hu)⟩⟩
theorem rd2_bk1 {w : World} {b : Nat} {x y : Int} {t : TypeId} (h : Bk w b #[.int .i64 x, .int .i64 y] t) : Rd2 w (.slice (some ⟨b, 0, none⟩) 1 1) [(x, y)] :=
  ⟨_, _, rfl, Nat.le_refl _, fun _ => ⟨b, 0, rfl, h.lt, fun i p hp => by
    match i, hp with
    | 0, hp => simp at hp; subst hp; exact ⟨h.cell 0 rfl, h.cell 1 rfl⟩
    | i + 1, hp => simp at hp⟩⟩
theorem knR_vec1 {w : World} {b : Nat} {x : Int} {t : TypeId} (h : Bk w b #[.int .i64 x] t) : KnR w (.agg #[.slice (some ⟨b, 0, none⟩) 1 1, .slice none 0 0]) [x] [] :=
  ⟨_, _, rfl, r1_bk (V := [x]) h rfl, Rd2.nil w, ⟨rfl, by simp [flat], .inl ⟨rfl, rfl⟩⟩⟩
theorem knR_more1 {w : World} {b : Nat} {x y : Int} {t : TypeId} (h : Bk w b #[.int .i64 x, .int .i64 y] t) : KnR w (.agg #[.slice none 0 0, .slice (some ⟨b, 0, none⟩) 1 1]) [] [(x, y)] :=
  ⟨_, _, rfl, R1.nil w, rd2_bk1 h, rdC_bk (M := [(x, y)]) h rfl⟩
theorem knR_vec2 {w : World} {b : Nat} {x y : Int} {t : TypeId} (h : Bk w b #[.int .i64 x, .int .i64 y] t) : KnR w (.agg #[.slice (some ⟨b, 0, none⟩) 2 2, .slice none 0 0]) [x, y] [] :=
  ⟨_, _, rfl, r1_bk (V := [x, y]) h rfl, Rd2.nil w, ⟨rfl, by simp [flat], .inl ⟨rfl, rfl⟩⟩⟩
end Go.Proofs.Ytghjfakellaecaa
