/- Package filter by tables: what each function does to filters that are told by the numbers of each combination of tags. -/
import Derived.Test.YthnoafmdecehcaaFilJ
import Derived.Test.YthnoafmdecehcaaFilDJoin
import Derived.Test.YthnoafmdecehcaaFilDMeet
import Derived.Test.YthnoafmdecehcaaFilDLess
import Derived.Test.YthnoafmdecehcaaFilO
import Derived.ChangeKeysEq
namespace Rm
open Go Go.RowKit
/-- have two tables the same numbers? -/
def eqT (T U : Nat → Nat) : Bool := (List.range 16).all fun i => ((T i : Nat) : Int) == ((U i : Nat) : Int)
def allT (P : Nat → Bool) : Bool := (List.range 16).all P
theorem allT_iff {P : Nat → Bool} : allT P = true ↔ ∀ t, t < 16 → P t = true := by simp [allT]
theorem allT_congr {P Q : Nat → Bool} (h : ∀ t, t < 16 → P t = Q t) : allT P = allT Q := by
  rw [Bool.eq_iff_iff, allT_iff, allT_iff]
  exact ⟨fun a t ht => by rw [← h t ht]; exact a t ht, fun a t ht => by rw [h t ht]; exact a t ht⟩
def sameT (T U : Nat → Nat) : Bool := allT fun t => T t == U t
def withinT (T U : Nat → Nat) : Bool := allT fun t => lessM (T t) (U t) == 0
theorem eqT_zero (T : Nat → Nat) : eqT T (fun _ => 0) = allT fun t => T t == 0 := by
  refine allT_congr fun t _ => ?_
  rw [Bool.eq_iff_iff]
  simp
theorem xor_zero {a b : Nat} : a ^^^ b = 0 ↔ a = b := by
  constructor
  · intro h
    apply Nat.eq_of_testBit_eq
    intro i
    have := congrArg (fun x => x.testBit i) h
    simp only [Nat.testBit_xor, Nat.zero_testBit] at this
    cases ha : a.testBit i <;> cases hb : b.testBit i <;> simp_all
  · rintro rfl; simp
end Rm
namespace Go.Proofs.Ythnoafmdecehcaa
open Go.RowKit Rm
set_option linter.unusedVariables false

theorem eqItems_tArr (d : Nat) (T U : Nat → Nat) (w : World) : ∀ is : List Nat, (∀ i ∈ is, i < 16) → (Op.eqItems (d + 1) 102 1 (tArr T) (tArr U) is).run Try.prog w = .ok (is.all fun i => ((T i : Nat) : Int) == ((U i : Nat) : Int)) w
  | [], _ => by simp [Op.eqItems]
  | i :: is, h => by
    have hi : i < 16 := h i (List.mem_cons_self ..)
    have ih := eqItems_tArr d T U w is (fun j hj => h j (List.mem_cons_of_mem _ hj))
    have ha : (isAgg 102).run Try.prog w = .ok false w := by
      unfold isAgg
      rw [Sem.run_bind, run_underlying Try.underlying102 w]
      rfl
    have p1 : (part 102 (tArr T) (i * 1)).run Try.prog w = .ok (.int .u64 (T i : Nat)) w := by
      unfold part
      rw [Sem.run_bind, ha]
      simp [tArr_at T i hi]
    have p2 : (part 102 (tArr U) (i * 1)).run Try.prog w = .ok (.int .u64 (U i : Nat)) w := by
      unfold part
      rw [Sem.run_bind, ha]
      simp [tArr_at U i hi]
    have p3 : (Op.equalIn (d + 1) 102 (.int .u64 (T i : Nat)) (.int .u64 (U i : Nat))).run Try.prog w = .ok (((T i : Nat) : Int) == ((U i : Nat) : Int)) w := by
      simp [Op.equalIn, Sem.run_bind, run_underlying Try.underlying102]
    simp only [Op.eqItems, Sem.run_bind, p1, p2, p3, Result.andThen_ok]
    cases hc : (((T i : Nat) : Int) == ((U i : Nat) : Int))
    · simp [hc]
    · simp [hc, ih]
theorem set_cells : Try.prog.cellsOf 102 = 1 := by kernel_rfl
theorem eq_tables (T U : Nat → Nat) (w : World) : (Op.equalIn 10000 104 (.agg (tArr T)) (.agg (tArr U))).run Try.prog w = .ok (eqT T U) w := by
  obtain ⟨i, hi⟩ : ∃ i, Try.prog.info? 102 = some i := by
    cases hq : Try.prog.info? 102 with
    | none => have := set_info; rw [hq] at this; simp at this
    | some i => exact ⟨i, rfl⟩
  rw [run_equalIn_array (P := Try.prog) w 9999 (tArr T) (tArr U) Try.underlying104 hi, set_cells]
  exact eqItems_tArr 9998 T U w (List.range 16) (fun i hi => List.mem_range.1 hi)

/-- a slice that is the filter of a table -/
def FSn (n : Nat) (w : World) (v : Value) (T : Nat → Nat) : Prop := ∃ F, RdF w v (F.map boxI) ∧ OkF F ∧ F.length ≤ n ∧ ∀ t, t < 16 → tabF F t = T t
abbrev FS (w : World) (v : Value) (T : Nat → Nat) : Prop := FSn 40 w v T
theorem FSn.gr {n : Nat} {w w' : World} {v : Value} {T : Nat → Nat} (h : FSn n w v T) (g : Gr w w') : FSn n w' v T := by
  obtain ⟨F, h1, h2⟩ := h
  exact ⟨F, h1.gr g, h2⟩
theorem FSn.alloc {n : Nat} {w : World} {v : Value} {T : Nat → Nat} (h : FSn n w v T) (o : Obj) : FSn n (w.alloc o) v T := h.gr ((Gr.refl w).alloc o)
theorem FSn.le {n m : Nat} {w : World} {v : Value} {T : Nat → Nat} (h : FSn n w v T) (hn : n ≤ m) : FSn m w v T := by
  obtain ⟨F, h1, h2, h3, h4⟩ := h
  exact ⟨F, h1, h2, by omega, h4⟩
theorem FSn.lt {n : Nat} {w : World} {v : Value} {T : Nat → Nat} (h : FSn n w v T) (t : Nat) (ht : t < 16) : T t < 2 ^ 32 := by
  obtain ⟨F, h1, h2, h3, h4⟩ := h
  rw [← h4 t ht]
  exact tabF_lt h2 t
theorem FSn.ext {n : Nat} {w : World} {v : Value} {T U : Nat → Nat} (h : FSn n w v T) (e : ∀ t, t < 16 → T t = U t) : FSn n w v U := by
  obtain ⟨F, h1, h2, h3, h4⟩ := h
  exact ⟨F, h1, h2, h3, fun t ht => (h4 t ht).trans (e t ht)⟩
/-- a filter in new memory: the slice, and the slices of its boxes, own what they hold -/
def FO (base n : Nat) (w : World) (v : Value) (T : Nat → Nat) : Prop :=
  ∃ O : List (Bx × Value), w.ownsRow base 56 3 v O.length (flatO O) ∧ (∀ p ∈ O, w.ownsRow base 53 2 p.2 (pairs (canon p.1.2)).length (flat (pairs (canon p.1.2)))) ∧ OkF (O.map (·.1)) ∧ O.length ≤ n ∧ ∀ t, t < 16 → tabF (O.map (·.1)) t = T t
theorem own_base {w : World} {base base' : Nat} {e : TypeId} {size : Nat} {v : Value} {n : Nat} {xs : List Value} (h : w.ownsRow base e size v n xs) (hb : base' ≤ base) : w.ownsRow base' e size v n xs := by
  refine ⟨h.1, ?_⟩
  rcases h.2 with ⟨a, b⟩ | ⟨g, cap, cur, a, b, c⟩
  · exact .inl ⟨a, b⟩
  · exact .inr ⟨g, cap, cur, a, Nat.le_trans hb b, c⟩
theorem FO.gr {base n : Nat} {w w' : World} {v : Value} {T : Nat → Nat} (h : FO base n w v T) (g : Gr w w') : FO base n w' v T := by
  obtain ⟨O, h1, h2, h3⟩ := h
  exact ⟨O, own_gr h1 g, fun p hp => own_gr (h2 p hp) g, h3⟩
theorem FO.base {base base' n : Nat} {w : World} {v : Value} {T : Nat → Nat} (h : FO base n w v T) (hb : base' ≤ base) : FO base' n w v T := by
  obtain ⟨O, h1, h2, h3⟩ := h
  exact ⟨O, own_base h1 hb, fun p hp => own_base (h2 p hp) hb, h3⟩
theorem FO.le {base n m : Nat} {w : World} {v : Value} {T : Nat → Nat} (h : FO base n w v T) (hn : n ≤ m) : FO base m w v T := by
  obtain ⟨O, h1, h2, h3, h4, h5⟩ := h
  exact ⟨O, h1, h2, h3, by omega, h5⟩
theorem FO.ext {base n : Nat} {w : World} {v : Value} {T U : Nat → Nat} (h : FO base n w v T) (e : ∀ t, t < 16 → T t = U t) : FO base n w v U := by
  obtain ⟨O, h1, h2, h3, h4, h5⟩ := h
  exact ⟨O, h1, h2, h3, h4, fun t ht => (h5 t ht).trans (e t ht)⟩
theorem FO.fs {base n : Nat} {w : World} {v : Value} {T : Nat → Nat} (h : FO base n w v T) : FSn n w v T := by
  obtain ⟨O, h1, h2, h3, h4, h5⟩ := h
  exact ⟨O.map (·.1), rd_own h1 h2, h3, by simpa using h4, h5⟩
theorem boxes_own {T : Nat → Nat} {w : World} (hT : ∀ t, t < 16 → T t < 2 ^ 32) : Calls Try.prog 71 #[.agg (tArr T)] w fun e w' => ∃ u, e = .returned u ∧ FO w.heap.size 16 w' u T ∧ Gr w w' :=
  (boxes_any T w hT).mono fun e w' ⟨u, O, he, hg, ⟨wl, hl1, ho⟩, hok, hl, ht⟩ => ⟨u, he, ⟨O, own_base ho.2.1 hl1.le, fun p hp => own_base (ho.2.2 p hp).1 hl1.le, hok, by have := blkT_len T 16; omega, ht⟩, hg⟩
theorem boxes_fs {T : Nat → Nat} {w : World} (hT : ∀ t, t < 16 → T t < 2 ^ 32) : Calls Try.prog 71 #[.agg (tArr T)] w fun e w' => ∃ u, e = .returned u ∧ FSn 16 w' u T ∧ Gr w w' :=
  (boxes_own hT).mono fun e w' ⟨u, he, ho, hg⟩ => ⟨u, he, ho.fs, hg⟩
theorem boxes_none {w : World} : Calls Try.prog 71 #[.agg (tArr fun _ => 0)] w fun e w' => ∃ a c, e = .returned (.slice a 0 c) ∧ Gr w w' :=
  (boxes_any (fun _ => 0) w (fun t _ => by decide)).mono fun e w' ⟨u, O, he, hg, ⟨wl, _, ho⟩, hok, hl, ht⟩ => by
    have h0 : O.length = 0 := by
      have : (blkT (fun _ => 0) 16).length = 0 := by decide
      omega
    obtain ⟨a, c, rfl, _⟩ := own_form ho.2.1
    exact ⟨a, c, by rw [he, h0], hg⟩

set_option maxHeartbeats 1000000 in
set_option maxRecDepth 100000 in
theorem fjoin_own {v v' : Value} {T U : Nat → Nat} {w : World} (h : FS w v T) (h' : FS w v' U) :
    Calls Try.prog 30 #[v, v'] w fun e w' => ∃ u, e = .returned (.tuple #[u, .int .i64 0]) ∧ FO w.heap.size 16 w' u (fun t => T t ||| U t) ∧ Gr w w' := by
  obtain ⟨F, h1, hF, hl1, t1⟩ := h
  obtain ⟨G, h2, hG, hl2, t2⟩ := h'
  obtain ⟨R, hR⟩ : ∃ R : Nat → Nat, R = fun t => tabF F t ||| tabF G t := ⟨_, rfl⟩
  have HS : Hid ((Try.prog.info? 104).map (·.size) = some (tArr R).size) := by rw [tArr_size]; exact table_info
  have HSZ : Hid ((tArr fun _ => 0).size = (tArr R).size) := by rw [tArr_size, tArr_size]; rfl
  have H1 := Lib.hid (tArr_one R)
  have HLT : Hid (∀ t, t < 16 → R t < 2 ^ 32) := fun t _ => by rw [hR]; exact Nat.or_lt_two_pow (tabF_lt hF t) (tabF_lt hG t)
  have HT : Hid (∀ t, t < 16 → R t = T t ||| U t) := fun t ht => by rw [hR]; simp only; rw [t1 t ht, t2 t ht]
  have HCC := Lib.hid (fcombine_join v v' F G w h1 h2 hF hG hl1 hl2)
  rw [← hR] at HCC
  clear h1 h2 hF hG hl1 hl2 t1 t2 hR
  go_enter Try.func30, Try.ntmps30
  go_wp2_with fail
  refine HCC.out.mono ?_
  rintro e w1 ⟨rfl, g1⟩
  go_wp2_with (first
    | (refine wpList_store_row rfl 104 (.tmp 6) (.tmp 12) rfl w1.heap.size (tArr R) rfl rfl 104 _ (heap_alloc_new _ _) HS.out HSZ.out H1.out ?_)
    | (refine wpList_load_row rfl 104 _ rfl w1.heap.size rfl 104 (tArr R) (0, 0) _ (setRow_heap _ _ _ _ _ _ (heap_alloc_new _ _)) Try.underlying104 rfl HS.out ?_))
  refine (boxes_own HLT.out).mono ?_
  rintro e w2 ⟨u, rfl, hu, g2⟩
  go_wp2_with fail
  go_ret2
  exact ⟨u, rfl, (hu.ext HT.out).base ((g1.alloc _).setRow g1.le _).le, ((g1.alloc _).setRow g1.le _).trans g2⟩
theorem fjoin_ok {v v' : Value} {T U : Nat → Nat} {w : World} (h : FS w v T) (h' : FS w v' U) :
    Calls Try.prog 30 #[v, v'] w fun e w' => ∃ u, e = .returned (.tuple #[u, .int .i64 0]) ∧ FSn 16 w' u (fun t => T t ||| U t) ∧ Gr w w' :=
  (fjoin_own h h').mono fun e w' ⟨u, he, hu, g⟩ => ⟨u, he, hu.fs, g⟩

set_option maxHeartbeats 1000000 in
set_option maxRecDepth 100000 in
theorem fmeet_own {v v' : Value} {T U : Nat → Nat} {w : World} (h : FS w v T) (h' : FS w v' U) :
    Calls Try.prog 31 #[v, v'] w fun e w' => ∃ u, e = .returned (.tuple #[u, .int .i64 0]) ∧ FO w.heap.size 16 w' u (fun t => T t &&& U t) ∧ Gr w w' := by
  obtain ⟨F, h1, hF, hl1, t1⟩ := h
  obtain ⟨G, h2, hG, hl2, t2⟩ := h'
  obtain ⟨R, hR⟩ : ∃ R : Nat → Nat, R = fun t => tabF F t &&& tabF G t := ⟨_, rfl⟩
  have HS : Hid ((Try.prog.info? 104).map (·.size) = some (tArr R).size) := by rw [tArr_size]; exact table_info
  have HSZ : Hid ((tArr fun _ => 0).size = (tArr R).size) := by rw [tArr_size, tArr_size]; rfl
  have H1 := Lib.hid (tArr_one R)
  have HLT : Hid (∀ t, t < 16 → R t < 2 ^ 32) := fun t _ => by rw [hR]; exact Nat.lt_of_le_of_lt Nat.and_le_left (tabF_lt hF t)
  have HT : Hid (∀ t, t < 16 → R t = T t &&& U t) := fun t ht => by rw [hR]; simp only; rw [t1 t ht, t2 t ht]
  have HCC := Lib.hid (fcombine_meet v v' F G w h1 h2 hF hG hl1 hl2)
  rw [← hR] at HCC
  clear h1 h2 hF hG hl1 hl2 t1 t2 hR
  go_enter Try.func31, Try.ntmps31
  go_wp2_with fail
  refine HCC.out.mono ?_
  rintro e w1 ⟨rfl, g1⟩
  go_wp2_with (first
    | (refine wpList_store_row rfl 104 (.tmp 6) (.tmp 12) rfl w1.heap.size (tArr R) rfl rfl 104 _ (heap_alloc_new _ _) HS.out HSZ.out H1.out ?_)
    | (refine wpList_load_row rfl 104 _ rfl w1.heap.size rfl 104 (tArr R) (0, 0) _ (setRow_heap _ _ _ _ _ _ (heap_alloc_new _ _)) Try.underlying104 rfl HS.out ?_))
  refine (boxes_own HLT.out).mono ?_
  rintro e w2 ⟨u, rfl, hu, g2⟩
  go_wp2_with fail
  go_ret2
  exact ⟨u, rfl, (hu.ext HT.out).base ((g1.alloc _).setRow g1.le _).le, ((g1.alloc _).setRow g1.le _).trans g2⟩
theorem fmeet_ok {v v' : Value} {T U : Nat → Nat} {w : World} (h : FS w v T) (h' : FS w v' U) :
    Calls Try.prog 31 #[v, v'] w fun e w' => ∃ u, e = .returned (.tuple #[u, .int .i64 0]) ∧ FSn 16 w' u (fun t => T t &&& U t) ∧ Gr w w' :=
  (fmeet_own h h').mono fun e w' ⟨u, he, hu, g⟩ => ⟨u, he, hu.fs, g⟩

set_option maxHeartbeats 1000000 in
set_option maxRecDepth 100000 in
theorem fless_own {v v' : Value} {T U : Nat → Nat} {w : World} (h : FS w v T) (h' : FS w v' U) :
    Calls Try.prog 32 #[v, v'] w fun e w' => ∃ u, e = .returned (.tuple #[u, .int .i64 0]) ∧ FO w.heap.size 16 w' u (fun t => lessM (T t) (U t)) ∧ Gr w w' := by
  obtain ⟨F, h1, hF, hl1, t1⟩ := h
  obtain ⟨G, h2, hG, hl2, t2⟩ := h'
  obtain ⟨R, hR⟩ : ∃ R : Nat → Nat, R = fun t => lessM (tabF F t) (tabF G t) := ⟨_, rfl⟩
  have HS : Hid ((Try.prog.info? 104).map (·.size) = some (tArr R).size) := by rw [tArr_size]; exact table_info
  have HSZ : Hid ((tArr fun _ => 0).size = (tArr R).size) := by rw [tArr_size, tArr_size]; rfl
  have H1 := Lib.hid (tArr_one R)
  have HLT : Hid (∀ t, t < 16 → R t < 2 ^ 32) := fun t _ => by rw [hR]; exact lessM_lt _ _ (tabF_lt hF t)
  have HT : Hid (∀ t, t < 16 → R t = lessM (T t) (U t)) := fun t ht => by rw [hR]; simp only; rw [t1 t ht, t2 t ht]
  have HCC := Lib.hid (fcombine_less v v' F G w h1 h2 hF hG hl1 hl2)
  rw [← hR] at HCC
  clear h1 h2 hF hG hl1 hl2 t1 t2 hR
  go_enter Try.func32, Try.ntmps32
  go_wp2_with fail
  refine HCC.out.mono ?_
  rintro e w1 ⟨rfl, g1⟩
  go_wp2_with (first
    | (refine wpList_store_row rfl 104 (.tmp 6) (.tmp 12) rfl w1.heap.size (tArr R) rfl rfl 104 _ (heap_alloc_new _ _) HS.out HSZ.out H1.out ?_)
    | (refine wpList_load_row rfl 104 _ rfl w1.heap.size rfl 104 (tArr R) (0, 0) _ (setRow_heap _ _ _ _ _ _ (heap_alloc_new _ _)) Try.underlying104 rfl HS.out ?_))
  refine (boxes_own HLT.out).mono ?_
  rintro e w2 ⟨u, rfl, hu, g2⟩
  go_wp2_with fail
  go_ret2
  exact ⟨u, rfl, (hu.ext HT.out).base ((g1.alloc _).setRow g1.le _).le, ((g1.alloc _).setRow g1.le _).trans g2⟩
theorem fless_ok {v v' : Value} {T U : Nat → Nat} {w : World} (h : FS w v T) (h' : FS w v' U) :
    Calls Try.prog 32 #[v, v'] w fun e w' => ∃ u, e = .returned (.tuple #[u, .int .i64 0]) ∧ FSn 16 w' u (fun t => lessM (T t) (U t)) ∧ Gr w w' :=
  (fless_own h h').mono fun e w' ⟨u, he, hu, g⟩ => ⟨u, he, hu.fs, g⟩
end Go.Proofs.Ythnoafmdecehcaa
