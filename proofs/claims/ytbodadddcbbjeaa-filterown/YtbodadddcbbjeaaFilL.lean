/- Joined: FilL, FilN, FilQ, FilR. -/
import Derived.Test.YtbodadddcbbjeaaFilK
import Derived.Test.YtbodadddcbbjeaaFilDB
/- Package filter by tables: Join, Meet, Less where Check refuses; Within and Same. -/
namespace Rm
open Go
/-- a whole array read where a guard said yes -/
theorem wpList_load_row_g {P : Program} {ops : Array Oper} {rest : List Oper} {o : Oper} {a : Act} {w : World} {Q : Exit → Act → World → Prop} (hw : Region.wanted o (yielded ops a.tmps) = true) (ty : TypeId) (x : Operand) (ho : o.op = .load ty x)
    (g : Nat) (hx : a.eval x = .pointer (some ⟨g, 0, none⟩)) (t : TypeId) (cs : Array Value) (fr : Nat × Nat) (d : TypeDesc) (hg : w.heap[g]? = some (.cells cs t fr))
    (hu : P.underlying ty = some d) (hd : (match d with | .struct _ | .array _ _ => true | _ => false) = true) (hi : (P.info? ty).map (·.size) = some cs.size)
    (h : wpList P ops Q rest (a.put o.dst (.agg cs)) w) : wpList P ops Q (o :: rest) a w :=
  wpList_step fun K hK => by rw [if_pos hw]; exact wp_load_row ty x ho g hx t cs fr d hg hu hd hi (hK _ _ h)
end Rm
namespace Go.Proofs.Ytbodadddcbbjeaa
open Go.RowKit Rm
set_option linter.unusedVariables false

set_option maxHeartbeats 1000000 in
set_option maxRecDepth 100000 in
theorem fjoin_bad {v v' : Value} {l r : List BoxI} {w : World} (hl : RdF w v l) (hr : RdF w v' r) (hc : (chkF2 l r == 0) = false) :
    Calls Try.prog 12 #[v, v'] w fun e w' => ∃ a c, e = .returned (.tuple #[.slice a 0 c, .int .i64 (chkF2 l r)]) ∧ Gr w w' := by
  have HS : Hid ((Try.prog.info? 64).map (·.size) = some (tArr fun _ => 0).size) := by rw [tArr_size]; exact table_info
  have H1 := Lib.hid (tArr_one fun _ => 0)
  have HCC := Lib.hid (fcombine_bad 39 v v' l r w hl hr hc)
  clear hl hr hc
  go_enter Try.func12, Try.ntmps12
  go_wp2_with fail
  refine HCC.out.mono ?_
  rintro e w1 ⟨rfl, g1⟩
  go_wp2_with (first
    | (refine wpList_store_row rfl 64 (.tmp 6) (.tmp 12) rfl w1.heap.size (tArr fun _ => 0) rfl rfl 64 _ (heap_alloc_new _ _) HS.out rfl H1.out ?_)
    | (refine wpList_load_row rfl 64 _ rfl w1.heap.size rfl 64 (tArr fun _ => 0) (0, 0) _ (setRow_heap _ _ _ _ _ _ (heap_alloc_new _ _)) Try.underlying64 rfl HS.out ?_))
  refine boxes_none.mono ?_
  rintro e w2 ⟨a, c, rfl, g2⟩
  go_wp2_with fail
  go_ret2
  exact ⟨a, c, rfl, ((g1.alloc _).setRow g1.le _).trans g2⟩

set_option maxHeartbeats 1000000 in
set_option maxRecDepth 100000 in
theorem fmeet_bad {v v' : Value} {l r : List BoxI} {w : World} (hl : RdF w v l) (hr : RdF w v' r) (hc : (chkF2 l r == 0) = false) :
    Calls Try.prog 11 #[v, v'] w fun e w' => ∃ a c, e = .returned (.tuple #[.slice a 0 c, .int .i64 (chkF2 l r)]) ∧ Gr w w' := by
  have HS : Hid ((Try.prog.info? 64).map (·.size) = some (tArr fun _ => 0).size) := by rw [tArr_size]; exact table_info
  have H1 := Lib.hid (tArr_one fun _ => 0)
  have HCC := Lib.hid (fcombine_bad 38 v v' l r w hl hr hc)
  clear hl hr hc
  go_enter Try.func11, Try.ntmps11
  go_wp2_with fail
  refine HCC.out.mono ?_
  rintro e w1 ⟨rfl, g1⟩
  go_wp2_with (first
    | (refine wpList_store_row rfl 64 (.tmp 6) (.tmp 12) rfl w1.heap.size (tArr fun _ => 0) rfl rfl 64 _ (heap_alloc_new _ _) HS.out rfl H1.out ?_)
    | (refine wpList_load_row rfl 64 _ rfl w1.heap.size rfl 64 (tArr fun _ => 0) (0, 0) _ (setRow_heap _ _ _ _ _ _ (heap_alloc_new _ _)) Try.underlying64 rfl HS.out ?_))
  refine boxes_none.mono ?_
  rintro e w2 ⟨a, c, rfl, g2⟩
  go_wp2_with fail
  go_ret2
  exact ⟨a, c, rfl, ((g1.alloc _).setRow g1.le _).trans g2⟩

set_option maxHeartbeats 1000000 in
set_option maxRecDepth 100000 in
theorem fless_bad {v v' : Value} {l r : List BoxI} {w : World} (hl : RdF w v l) (hr : RdF w v' r) (hc : (chkF2 l r == 0) = false) :
    Calls Try.prog 8 #[v, v'] w fun e w' => ∃ a c, e = .returned (.tuple #[.slice a 0 c, .int .i64 (chkF2 l r)]) ∧ Gr w w' := by
  have HS : Hid ((Try.prog.info? 64).map (·.size) = some (tArr fun _ => 0).size) := by rw [tArr_size]; exact table_info
  have H1 := Lib.hid (tArr_one fun _ => 0)
  have HCC := Lib.hid (fcombine_bad 35 v v' l r w hl hr hc)
  clear hl hr hc
  go_enter Try.func8, Try.ntmps8
  go_wp2_with fail
  refine HCC.out.mono ?_
  rintro e w1 ⟨rfl, g1⟩
  go_wp2_with (first
    | (refine wpList_store_row rfl 64 (.tmp 6) (.tmp 12) rfl w1.heap.size (tArr fun _ => 0) rfl rfl 64 _ (heap_alloc_new _ _) HS.out rfl H1.out ?_)
    | (refine wpList_load_row rfl 64 _ rfl w1.heap.size rfl 64 (tArr fun _ => 0) (0, 0) _ (setRow_heap _ _ _ _ _ _ (heap_alloc_new _ _)) Try.underlying64 rfl HS.out ?_))
  refine boxes_none.mono ?_
  rintro e w2 ⟨a, c, rfl, g2⟩
  go_wp2_with fail
  go_ret2
  exact ⟨a, c, rfl, ((g1.alloc _).setRow g1.le _).trans g2⟩

set_option maxHeartbeats 1000000 in
set_option maxRecDepth 100000 in
theorem fsame_bad {v v' : Value} {l r : List BoxI} {w : World} (hl : RdF w v l) (hr : RdF w v' r) (hc : (chkF2 l r == 0) = false) :
    Calls Try.prog 37 #[v, v'] w fun e w' => e = .returned (.tuple #[.bool false, .int .i64 (chkF2 l r)]) ∧ Gr w w' := by
  have HS : Hid ((Try.prog.info? 64).map (·.size) = some (tArr fun _ => 0).size) := by rw [tArr_size]; exact table_info
  have H1 := Lib.hid (tArr_one fun _ => 0)
  have HCC := Lib.hid (fcombine_bad 62 v v' l r w hl hr hc)
  clear hl hr
  go_enter Try.func37, Try.ntmps37
  go_wp2_with fail
  refine HCC.out.mono ?_
  rintro e w1 ⟨rfl, g1⟩
  go_wp2_with (first
    | (refine wpList_store_row rfl 64 (.tmp 6) (.tmp 12) rfl w1.heap.size (tArr fun _ => 0) rfl rfl 64 _ (heap_alloc_new _ _) HS.out rfl H1.out ?_))
  go_ret2
  exact ⟨rfl, (g1.alloc _).setRow g1.le _⟩

set_option maxHeartbeats 1000000 in
set_option maxRecDepth 100000 in
theorem fsame_ok {v v' : Value} {T U : Nat → Nat} {w : World} (h : FS w v T) (h' : FS w v' U) :
    Calls Try.prog 37 #[v, v'] w fun e w' => e = .returned (.tuple #[.bool (sameT T U), .int .i64 0]) ∧ Gr w w' := by
  obtain ⟨F, h1, hF, hl1, t1⟩ := h
  obtain ⟨G, h2, hG, hl2, t2⟩ := h'
  obtain ⟨R, hR0⟩ : ∃ R : Nat → Nat, R = fun t => tabF F t ^^^ tabF G t := ⟨_, rfl⟩
  have hR : ∀ t, R t = tabF F t ^^^ tabF G t := fun t => by rw [hR0]
  have HS : Hid ((Try.prog.info? 64).map (·.size) = some (tArr R).size) := by rw [tArr_size]; exact table_info
  have HSZ : Hid ((tArr fun _ => 0).size = (tArr R).size) := by rw [tArr_size, tArr_size]; rfl
  have H1 := Lib.hid (tArr_one R)
  have HE : eqT R (fun _ => 0) = sameT T U := by
    rw [eqT_zero]
    exact allT_congr fun t ht => by rw [hR, Bool.eq_iff_iff, beq_iff_eq, beq_iff_eq, xor_zero, t1 t ht, t2 t ht]
  have hq : ∀ wx : World, (Op.equalIn 10000 64 (.agg (tArr R)) (.agg #[.int .u64 0, .int .u64 0, .int .u64 0, .int .u64 0, .int .u64 0, .int .u64 0, .int .u64 0, .int .u64 0, .int .u64 0, .int .u64 0, .int .u64 0, .int .u64 0, .int .u64 0, .int .u64 0, .int .u64 0, .int .u64 0])).run Try.prog wx = .ok (sameT T U) wx := fun wx => by
    rw [← HE]
    exact eq_tables R (fun _ => 0) wx
  have HCC := Lib.hid (fcombine_same v v' F G w h1 h2 hF hG hl1 hl2)
  rw [← hR0] at HCC
  clear h1 h2 hF hG hl1 hl2 t1 t2 hR hR0 HE
  go_enter Try.func37, Try.ntmps37
  go_wp2_with fail
  refine HCC.out.mono ?_
  rintro e w1 ⟨rfl, g1⟩
  go_wp2_with (first
    | (refine wpList_store_row rfl 64 (.tmp 6) (.tmp 12) rfl w1.heap.size (tArr R) rfl rfl 64 _ (heap_alloc_new _ _) HS.out HSZ.out H1.out ?_)
    | (refine wpList_load_row_g rfl 64 (.tmp 6) rfl w1.heap.size rfl 64 (tArr R) (0, 0) _ (setRow_heap _ _ _ _ _ _ (heap_alloc_new _ _)) Try.underlying64 rfl HS.out ?_))
  go_ret2
  exact ⟨rfl, (g1.alloc _).setRow g1.le _⟩
end Go.Proofs.Ytbodadddcbbjeaa
/- Package filter by tables: Point, Has, Count, Every; the statements' same and filterBegun. -/
namespace Rm
open Go Go.RowKit
/-- is it a point? -/
def pointB (t n : Int) : Bool := decide (0 ≤ t) && decide (t < 16) && (decide (0 ≤ n) && decide (n < 32))
theorem point_of {t n : Int} (h : pointB t n = true) : ∃ a b : Nat, a < 16 ∧ b < 32 ∧ t = a ∧ n = b := by
  simp [pointB] at h
  exact ⟨t.toNat, n.toNat, by omega, by omega, by omega, by omega⟩
theorem pointB_nat {a b : Nat} (ha : a < 16) (hb : b < 32) : pointB a b = true := by simp [pointB]; omega
/-- what Has answers -/
def bitT (T : Nat → Nat) (t n : Int) : Bool := pointB t n && (T t.toNat).testBit n.toNat
def errP (t n : Int) : Int := if pointB t n then 0 else 1
/-- how many points below a combination of tags -/
def cntTo (T : Nat → Nat) : Nat → Nat
  | 0 => 0
  | k + 1 => cntTo T k + popc (T k)
def cntT (T : Nat → Nat) : Nat := cntTo T 16
theorem cntTo_le (T : Nat → Nat) : ∀ k, cntTo T k ≤ 32 * k
  | 0 => Nat.le_refl _
  | k + 1 => by have := cntTo_le T k; have := popc_le (T k); simp only [cntTo]; omega
theorem cntTo_congr {T U : Nat → Nat} : ∀ k, (∀ t, t < k → T t = U t) → cntTo T k = cntTo U k
  | 0, _ => rfl
  | k + 1, h => by simp only [cntTo]; rw [cntTo_congr k (fun t ht => h t (by omega)), h k (by omega)]
end Rm
namespace Go.Proofs.Ytbodadddcbbjeaa
open Go.RowKit Rm
set_option linter.unusedVariables false
attribute [local go_sem ↓] Go.wp_at_zero Go.wp_at_succ

set_option maxHeartbeats 1000000 in
set_option maxRecDepth 100000 in
theorem fcount_bad {v : Value} {l : List BoxI} {w : World} (hl : RdF w v l) (hc : (chkF l == 0) = false) :
    Calls Try.prog 40 #[v] w fun e w' => e = .returned (.tuple #[.int .i64 0, .int .i64 (chkF l)]) ∧ Gr w w' := by
  have hc' := bne_of' hc
  have HL := Lib.hid hl
  clear hl
  go_enter Try.func40, Try.ntmps40
  go_wp2_with fail
  refine (fcheck_any _ _ _ HL.out).mono ?_
  rintro e w1 ⟨rfl, g1⟩
  go_wp2_with fail
  go_ret2
  exact ⟨rfl, g1⟩

set_option maxHeartbeats 1000000 in
set_option maxRecDepth 100000 in
theorem fcount_ok {v : Value} {T : Nat → Nat} {w : World} (h : FS w v T) :
    Calls Try.prog 40 #[v] w fun e w' => e = .returned (.tuple #[.int .i64 (cntT T : Nat), .int .i64 0]) ∧ Gr w w' := by
  obtain ⟨F, h1, hF, hl1, t1⟩ := h
  have hc := chkF_of hF hl1
  have HL := Lib.hid h1
  have HF := Lib.hid hF
  have HT : Hid (cntT T = cntTo (tabF F) 16) := (cntTo_congr 16 t1).symm
  clear h1 hF t1
  go_enter Try.func40, Try.ntmps40
  go_wp2_with fail
  refine (fcheck_any _ _ _ HL.out).mono ?_
  rw [hc]
  rintro e w1 ⟨rfl, g1⟩
  go_wp2_with fail
  refine (tableOf_any _ _ _ (HL.out.gr g1) HF.out hl1).mono ?_
  rintro e w2 ⟨rfl, g2⟩
  have G2 := g1.trans g2
  clear g1 g2
  go_wp2_with fail
  go_loop [5, 15] (fun a i => ∃ k : Nat, k ≤ 16 ∧ i = .int .i64 k ∧ a = .int .i64 (cntTo (tabF F) k : Nat)) (fun _ i => 16 - (intOf i).toNat)
  case atStart => exact ⟨0, by omega, rfl, rfl⟩
  case round =>
    obtain ⟨k, hk, rfl, rfl⟩ := hrel
    by_cases hlt : k < 16
    · have hix := fun wx => index_table (tabF F) k hlt wx
      have hk16 : (k : Int) < 16 := by omega
      have hcl : ((cntTo (tabF F) k : Nat) : Int) ≤ 512 := by have := cntTo_le (tabF F) k; omega
      have hpl : ((popc (tabF F k) : Nat) : Int) ≤ 32 := by have := popc_le (tabF F k); omega
      have HS : Hid (((cntTo (tabF F) (k + 1) : Nat) : Int) = ((cntTo (tabF F) k : Nat) : Int) + ((popc (tabF F k) : Nat) : Int)) := by simp only [cntTo]; unfold Hid; omega
      have HLT := Lib.hid (tabF_lt HF.out k)
      generalize cntTo (tabF F) k = cc at *
      generalize tabF F k = tk at *
      go_wp2_with fail
      refine (ones64_mask tk _ HLT.out).mono ?_
      rintro e w3 ⟨rfl, rfl⟩
      go_wp2_with fail
      go_round
      case rel => exact ⟨k + 1, by omega, by go_num, by rw [HS.out]⟩
      case measure => simp [intOf]; omega
    · obtain rfl : k = 16 := by omega
      go_wp2_with fail
      go_ret2
      exact ⟨by rw [HT.out]; rfl, G2⟩

theorem tableOf_at (B : Nat) (t n : Int) (v : Value) (F : List Bx) (w : World) (hr : RdF w v (F.map boxI)) (hF : OkF F) (hl : F.length ≤ 40) (h : Two w B t n) :
    Calls Try.prog 58 #[v] w fun e w' => e = .returned (.agg (tArr (tabF F))) ∧ Gr w w' ∧ w'.cell? ⟨B, 0, none⟩ = some (.int .i64 t) ∧ w'.cell? ⟨B, 1, none⟩ = some (.int .i64 n) :=
  (tableOf_any v F w hr hF hl).mono fun e w' ⟨he, g⟩ => ⟨he, g, (h.gr g).2⟩

end Go.Proofs.Ytbodadddcbbjeaa
/- Package filter's Every; the statements' same and filterBegun; filters that are written out. -/
namespace Go.Proofs.Ytbodadddcbbjeaa
open Go.RowKit Rm
set_option linter.unusedVariables false

/-- a filter of one box that is written out: its numbers in a block, the box in the next one -/
theorem lit_box (w : World) (y n f t : Nat) (S B : TypeId) (m : Nat) (hc : canon m = [(f, t)]) (hm : m < 2 ^ 32) (hv : Vld y n) :
    FSn 1 ((w.alloc (.cells #[.int .i64 f, .int .i64 t] S)).alloc (.cells #[.int .i64 y, .int .i64 n, .slice (some ⟨w.heap.size, 0, none⟩) 1 1] B)) (.slice (some ⟨w.heap.size + 1, 0, none⟩) 1 1) (tabF [((y, n), m)]) := by
  refine ⟨[((y, n), m)], ⟨_, 1, rfl, by simp, fun _ => ⟨w.heap.size + 1, 0, rfl, by simp, ?_⟩⟩, ?_, by simp, fun _ _ => rfl⟩
  · intro i p hp
    cases i with
    | succ i => simp at hp
    | zero =>
      simp at hp
      subst hp
      refine ⟨.slice (some ⟨w.heap.size, 0, none⟩) 1 1, ?_, ?_, ?_, ?_⟩
      · simp [go_sem, boxI]
      · simp [go_sem, boxI]
      · simp [go_sem]
      · have h := (lit1 w f t S m hc hm).1
        exact h.gr ((Gr.refl _).alloc _)
  · intro b hb
    obtain rfl : b = ((y, n), m) := by simpa using hb
    exact ⟨hv, hm⟩
theorem vld00 : Vld 0 0 := by refine ⟨?_, ?_, ?_⟩ <;> decide
theorem vld10 : Vld 1 0 := by refine ⟨?_, ?_, ?_⟩ <;> decide
theorem canonFull : canon 4294967295 = [(0, 32)] := by decide +kernel
theorem tabFull : ∀ t < 16, tabF [((0, 0), 4294967295)] t = 4294967295 := by decide +kernel
/-- all numbers, for every combination of tags -/
def fullT : Nat → Nat := fun _ => 4294967295

/-- the same, in new memory -/
theorem lit_own (w : World) (y n f t : Nat) (m : Nat) (hc : canon m = [(f, t)]) (hm : m < 2 ^ 32) (hv : Vld y n) :
    FO w.heap.size 1 ((w.alloc (.cells #[.int .i64 f, .int .i64 t] 53)).alloc (.cells #[.int .i64 y, .int .i64 n, .slice (some ⟨w.heap.size, 0, none⟩) 1 1] 72)) (.slice (some ⟨w.heap.size + 1, 0, none⟩) 1 1) (tabF [((y, n), m)]) := by
  refine ⟨[(((y, n), m), .slice (some ⟨w.heap.size, 0, none⟩) 1 1)], ?_, ?_, ?_, by simp, fun _ _ => rfl⟩
  · have h := World.ownsRow_lit (base := w.heap.size) (e := 72) (size := 3) (w.alloc (.cells #[.int .i64 f, .int .i64 t] 53)) #[.int .i64 y, .int .i64 n, .slice (some ⟨w.heap.size, 0, none⟩) 1 1] 1 (by simp) (by simp [maxLen]) rfl
    simpa [flatO] using h
  · intro p hp
    obtain rfl : p = (((y, n), m), .slice (some ⟨w.heap.size, 0, none⟩) 1 1) := by simpa using hp
    simp only
    rw [hc]
    have h := World.ownsRow_lit (base := w.heap.size) (e := 53) (size := 2) w #[.int .i64 f, .int .i64 t] 1 (Nat.le_refl _) (by simp [maxLen]) rfl
    exact h.alloc _
  · intro b hb
    obtain rfl : b = ((y, n), m) := by simpa using hb
    exact ⟨hv, hm⟩

set_option maxHeartbeats 400000 in
set_option maxRecDepth 100000 in
theorem fevery_own (w : World) : Calls Try.prog 9 #[] w fun e w' => ∃ v, e = .returned v ∧ FO w.heap.size 1 w' v fullT ∧ Gr w w' := by
  have HB := Lib.hid ((lit_own w 0 0 0 32 4294967295 canonFull (by decide) vld00).ext tabFull)
  go_enter Try.func9, Try.ntmps9
  go_wp2
  go_ret
  exact ⟨_, rfl, HB.out, ((Gr.refl _).alloc _).alloc _⟩
theorem fevery (w : World) : Calls Try.prog 9 #[] w fun e w' => ∃ v, e = .returned v ∧ FSn 1 w' v fullT ∧ Gr w w' :=
  (fevery_own w).mono fun e w' ⟨v, he, hv, g⟩ => ⟨v, he, hv.fs, g⟩

set_option maxHeartbeats 400000 in
set_option maxRecDepth 100000 in
theorem same_any {v v' : Value} {T U : Nat → Nat} {w : World} (h : FS w v T) (h' : FS w v' U) :
    Calls Try.prog 10 #[v, v'] w fun e w' => e = .returned (.bool (sameT T U)) ∧ Gr w w' := by
  have HA := Lib.hid h
  have HB := Lib.hid h'
  clear h h'
  go_enter Try.func10, Try.ntmps10
  go_wp2_with fail
  refine (fsame_ok HA.out HB.out).mono ?_
  rintro e w1 ⟨rfl, g1⟩
  go_wp2_with fail
  go_ret
  exact ⟨rfl, g1⟩

theorem canon3 : canon 3 = [(0, 2)] := by decide +kernel
theorem cnt16 : cntT (tabF [((1, 0), 3)]) = 16 := by decide +kernel
set_option maxHeartbeats 400000 in
set_option maxRecDepth 100000 in
theorem begun_any (w : World) : Calls Try.prog 13 #[] w fun e w' => e = .returned (.bool true) ∧ Gr w w' := by
  have HB := Lib.hid (fun S B => lit_box w 1 0 0 2 S B 3 canon3 (by decide) vld10)
  have hc := cnt16
  go_enter Try.func13, Try.ntmps13
  go_wp2_with fail
  refine (fcount_ok ((HB.out _ _).le (by omega))).mono ?_
  rw [hc]
  rintro e w1 ⟨rfl, g1⟩
  go_wp2_with fail
  go_ret
  exact ⟨rfl, (((Gr.refl _).alloc _).alloc _).trans g1⟩
end Go.Proofs.Ytbodadddcbbjeaa
/- The plain mathematics of tables: what the statements on filters say of them. -/
namespace Rm
open Go Go.RowKit
theorem bitT_or (T U : Nat → Nat) (t n : Int) : bitT (fun k => T k ||| U k) t n = (bitT T t n || bitT U t n) := by
  unfold bitT
  rw [Nat.testBit_or]
  cases pointB t n <;> simp
theorem bitT_and (T U : Nat → Nat) (t n : Int) : bitT (fun k => T k &&& U k) t n = (bitT T t n && bitT U t n) := by
  unfold bitT
  rw [Nat.testBit_and]
  cases pointB t n <;> simp
theorem bitT_less {T U : Nat → Nat} (hT : ∀ t, t < 16 → T t < 2 ^ 32) (hU : ∀ t, t < 16 → U t < 2 ^ 32) (t n : Int) : bitT (fun k => lessM (T k) (U k)) t n = (bitT T t n && !bitT U t n) := by
  unfold bitT
  cases h : pointB t n
  · simp
  · obtain ⟨a, b, ha, hb, rfl, rfl⟩ := point_of h
    simp only [Int.toNat_natCast, Bool.true_and]
    exact lessM_bit _ _ _ (hU a ha) (hT a ha)
theorem sameT_of {T U : Nat → Nat} (h : ∀ t, t < 16 → T t = U t) : sameT T U = true := allT_iff.2 fun t ht => by rw [h t ht]; simp
theorem sameT_iff {T U : Nat → Nat} : sameT T U = true ↔ ∀ t, t < 16 → T t = U t := by
  unfold sameT
  rw [allT_iff]
  simp
theorem withinT_iff {T U : Nat → Nat} : withinT T U = true ↔ ∀ t, t < 16 → lessM (T t) (U t) = 0 := by
  unfold withinT
  rw [allT_iff]
  simp
/-- tables whose sets are of numbers below 32 -/
def OkT (T : Nat → Nat) : Prop := ∀ t, t < 16 → T t < 2 ^ 32
theorem okT_full : OkT Go.Proofs.Ytbodadddcbbjeaa.fullT := fun _ _ => by simp [Go.Proofs.Ytbodadddcbbjeaa.fullT]
open Go.Proofs.Ytbodadddcbbjeaa in
theorem cntTo_incl (T U : Nat → Nat) : ∀ k, cntTo T k + cntTo U k = cntTo (fun t => T t ||| U t) k + cntTo (fun t => T t &&& U t) k
  | 0 => rfl
  | k + 1 => by
    have ih := cntTo_incl T U k
    have h := popTo_incl (T k) (U k) 32
    simp only [cntTo, popc]
    omega
theorem popTo_zero : ∀ k, popTo 0 k = 0
  | 0 => rfl
  | k + 1 => by simp [popTo, popTo_zero k]
theorem cntTo_zero {T : Nat → Nat} : ∀ k, (∀ t, t < k → T t = 0) → cntTo T k = 0
  | 0, _ => rfl
  | k + 1, h => by simp only [cntTo]; rw [cntTo_zero k (fun t ht => h t (by omega)), h k (by omega)]; simp [popc, popTo_zero]
theorem popTo_none {m : Nat} : ∀ k, popTo m k = 0 → ∀ i, i < k → m.testBit i = false
  | 0, _, i, hi => by omega
  | k + 1, h, i, hi => by
    simp only [popTo] at h
    rcases Nat.lt_or_ge i k with c | c
    · exact popTo_none k (by omega) i c
    · obtain rfl : i = k := by omega
      cases hb : m.testBit i
      · rfl
      · rw [hb] at h; simp at h
open Go.Proofs.Ytbodadddcbbjeaa in
theorem popc_none {m : Nat} (hm : m < 2 ^ 32) (h : popc m = 0) : m = 0 :=
  mask_ext hm (by decide) fun i hi => by rw [popTo_none 32 h i hi, Nat.zero_testBit]
theorem cntTo_none {T : Nat → Nat} (hT : OkT T) : ∀ k, k ≤ 16 → cntTo T k = 0 → ∀ t, t < k → T t = 0
  | 0, _, _, t, ht => by omega
  | k + 1, hk, h, t, ht => by
    simp only [cntTo] at h
    rcases Nat.lt_or_ge t k with c | c
    · exact cntTo_none hT k (by omega) (by omega) t c
    · obtain rfl : t = k := by omega
      exact popc_none (hT t (by omega)) (by omega)
theorem okT_less {T U : Nat → Nat} (hT : OkT T) : OkT (fun t => lessM (T t) (U t)) := fun t ht => lessM_lt _ _ (hT t ht)
theorem cnt_none {T U : Nat → Nat} (hT : OkT T) : (((cntT fun t => lessM (T t) (U t) : Nat) : Int) == 0) = withinT T U := by
  rw [Bool.eq_iff_iff, withinT_iff]
  simp only [beq_iff_eq, cntT]
  constructor
  · intro h t ht
    exact cntTo_none (okT_less hT) 16 (by omega) (by omega) t ht
  · intro h
    have := cntTo_zero 16 h
    omega
open Go.Proofs.Ytbodadddcbbjeaa in
theorem same_within {T U : Nat → Nat} (hT : OkT T) (hU : OkT U) : sameT T U = (withinT T U && withinT U T) := by
  rw [Bool.eq_iff_iff, Bool.and_eq_true, sameT_iff, withinT_iff, withinT_iff]
  constructor
  · intro h
    refine ⟨fun t ht => ?_, fun t ht => ?_⟩
    · rw [h t ht]
      have := (sub_iff (hU t ht) (hU t ht)).2 (fun i _ hi => hi)
      simpa [subM] using this
    · rw [h t ht]
      have := (sub_iff (hU t ht) (hU t ht)).2 (fun i _ hi => hi)
      simpa [subM] using this
  · rintro ⟨h1, h2⟩ t ht
    have h3 := sub_anti (hT t ht) (hU t ht)
    simp only [subM, h1 t ht, h2 t ht, eqM] at h3
    simpa using h3
open Go.Proofs.Ytbodadddcbbjeaa in
theorem within_trans {T U V : Nat → Nat} (hT : OkT T) (hU : OkT U) (hV : OkT V) (h1 : withinT T U = true) (h2 : withinT U V = true) : withinT T V = true := by
  rw [withinT_iff] at *
  intro t ht
  have := sub_trans (hT t ht) (hU t ht) (hV t ht) (by simpa [subM] using h1 t ht) (by simpa [subM] using h2 t ht)
  simpa [subM] using this
open Go.Proofs.Ytbodadddcbbjeaa in
theorem within_of {T U : Nat → Nat} (hT : OkT T) (hU : OkT U) (h : ∀ t, t < 16 → ∀ i, i < 32 → (T t).testBit i = true → (U t).testBit i = true) : withinT T U = true := by
  rw [withinT_iff]
  intro t ht
  have := (sub_iff (hT t ht) (hU t ht)).2 (h t ht)
  simpa [subM] using this
open Go.Proofs.Ytbodadddcbbjeaa in
theorem within_bit {T U : Nat → Nat} (hT : OkT T) (hU : OkT U) (h : withinT T U = true) {t i : Nat} (ht : t < 16) (hi : i < 32) (hb : (T t).testBit i = true) : (U t).testBit i = true := by
  rw [withinT_iff] at h
  exact (sub_iff (hT t ht) (hU t ht)).1 (by simpa [subM] using h t ht) i hi hb
theorem okT_or {T U : Nat → Nat} (hT : OkT T) (hU : OkT U) : OkT (fun t => T t ||| U t) := fun t ht => Nat.or_lt_two_pow (hT t ht) (hU t ht)
theorem okT_and {T U : Nat → Nat} (hT : OkT T) : OkT (fun t => T t &&& U t) := fun t ht => Nat.lt_of_le_of_lt Nat.and_le_left (hT t ht)
theorem within_has {T U : Nat → Nat} (hT : OkT T) (hU : OkT U) (h : withinT T U = true) {t n : Int} (hb : bitT T t n = true) : bitT U t n = true := by
  unfold bitT at *
  simp only [Bool.and_eq_true] at *
  obtain ⟨a, b, ha, hb', rfl, rfl⟩ := point_of hb.1
  exact ⟨hb.1, within_bit hT hU h (by simpa using ha) (by simpa using hb') hb.2⟩
open Go.Proofs.Ytbodadddcbbjeaa in
theorem cntTo_parts {T U : Nat → Nat} (hT : OkT T) (hU : OkT U) : ∀ k, k ≤ 16 → cntTo (fun t => T t &&& U t) k + cntTo (fun t => lessM (T t) (U t)) k = cntTo T k
  | 0, _ => rfl
  | k + 1, hk => by
    have ih := cntTo_parts hT hU k (by omega)
    have h := popTo_parts (hT k (by omega)) (hU k (by omega)) 32
    simp only [cntTo, popc]
    omega
theorem within_cnt {T U : Nat → Nat} (hT : OkT T) (hU : OkT U) (h : withinT T U = true) : cntT T ≤ cntT U ∧ decide (cntT T < cntT U) = !withinT U T := by
  have p1 := cntTo_parts hT hU 16 (by omega)
  have p2 := cntTo_parts hU hT 16 (by omega)
  have e : (fun t => U t &&& T t) = (fun t => T t &&& U t) := funext fun t => Nat.and_comm _ _
  rw [e] at p2
  have z : cntTo (fun t => lessM (T t) (U t)) 16 = 0 := cntTo_zero 16 (withinT_iff.1 h)
  have c := cnt_none (U := T) hU
  unfold cntT at *
  refine ⟨by omega, ?_⟩
  rw [← c, Bool.eq_iff_iff]
  simp
  omega
end Rm
namespace Go.Proofs.Ytbodadddcbbjeaa
open Go.RowKit Rm
set_option linter.unusedVariables false
theorem fs_of {w : World} {v : Value} {l : List BoxI} (hl : RdF w v l) (h : (chkF l == 0) = true) : ∃ T, FS w v T ∧ OkT T := by
  obtain ⟨F, rfl, hF, hn⟩ := okF_of (by simpa using h)
  exact ⟨tabF F, ⟨F, hl, hF, hn, fun _ _ => rfl⟩, fun t _ => tabF_lt hF t⟩
set_option maxHeartbeats 400000 in
set_option maxRecDepth 100000 in
theorem fcheck_ok {w : World} {v : Value} {T : Nat → Nat} (h : FS w v T) : Calls Try.prog 43 #[v] w fun e w' => e = .returned (.int .i64 0) ∧ Gr w w' := by
  obtain ⟨F, h1, hF, hl, _⟩ := h
  have := fcheck_any v _ w h1
  rw [chkF_of hF hl] at this
  exact this
theorem fs2_of {w : World} {v v' : Value} {l r : List BoxI} (hl : RdF w v l) (hr : RdF w v' r) (h : (chkF2 l r == 0) = true) : ∃ T U, FS w v T ∧ FS w v' U ∧ OkT T ∧ OkT U := by
  unfold chkF2 at h
  split at h
  · rename_i h0
    obtain ⟨T, a, b⟩ := fs_of hl h0
    obtain ⟨U, c, d⟩ := fs_of hr h
    exact ⟨T, U, a, c, b, d⟩
  · rename_i h0
    exact absurd h h0
end Go.Proofs.Ytbodadddcbbjeaa
