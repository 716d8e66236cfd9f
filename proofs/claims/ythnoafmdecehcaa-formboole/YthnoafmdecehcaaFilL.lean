/- Package filter by tables: Join, Meet, Less where Check refuses; Within and Same. -/
import Derived.Test.YthnoafmdecehcaaFilK
import Derived.Test.YthnoafmdecehcaaFilDWithin
import Derived.Test.YthnoafmdecehcaaFilDSame
namespace Rm
open Go
/-- a whole array read where a guard said yes -/
theorem wpList_load_row_g {P : Program} {ops : Array Oper} {rest : List Oper} {o : Oper} {a : Act} {w : World} {Q : Exit → Act → World → Prop} (hw : Region.wanted o (yielded ops a.tmps) = true) (ty : TypeId) (x : Operand) (ho : o.op = .load ty x)
    (g : Nat) (hx : a.eval x = .pointer (some ⟨g, 0, none⟩)) (t : TypeId) (cs : Array Value) (fr : Nat × Nat) (d : TypeDesc) (hg : w.heap[g]? = some (.cells cs t fr))
    (hu : P.underlying ty = some d) (hd : (match d with | .struct _ | .array _ _ => true | _ => false) = true) (hi : (P.info? ty).map (·.size) = some cs.size)
    (h : wpList P ops Q rest (a.put o.dst (.agg cs)) w) : wpList P ops Q (o :: rest) a w :=
  wpList_step fun K hK => by rw [if_pos hw]; exact wp_load_row ty x ho g hx t cs fr d hg hu hd hi (hK _ _ h)
end Rm
namespace Go.Proofs.Ythnoafmdecehcaa
open Go.RowKit Rm
set_option linter.unusedVariables false

set_option maxHeartbeats 1000000 in
set_option maxRecDepth 100000 in
theorem fjoin_bad {v v' : Value} {l r : List BoxI} {w : World} (hl : RdF w v l) (hr : RdF w v' r) (hc : (chkF2 l r == 0) = false) :
    Calls Try.prog 30 #[v, v'] w fun e w' => ∃ a c, e = .returned (.tuple #[.slice a 0 c, .int .i64 (chkF2 l r)]) ∧ Gr w w' := by
  have HS : Hid ((Try.prog.info? 104).map (·.size) = some (tArr fun _ => 0).size) := by rw [tArr_size]; exact table_info
  have H1 := Lib.hid (tArr_one fun _ => 0)
  have HCC := Lib.hid (fcombine_bad 70 v v' l r w hl hr hc)
  clear hl hr hc
  go_enter Try.func30, Try.ntmps30
  go_wp2_with fail
  refine HCC.out.mono ?_
  rintro e w1 ⟨rfl, g1⟩
  go_wp2_with (first
    | (refine wpList_store_row rfl 104 (.tmp 6) (.tmp 12) rfl w1.heap.size (tArr fun _ => 0) rfl rfl 104 _ (heap_alloc_new _ _) HS.out rfl H1.out ?_)
    | (refine wpList_load_row rfl 104 _ rfl w1.heap.size rfl 104 (tArr fun _ => 0) (0, 0) _ (setRow_heap _ _ _ _ _ _ (heap_alloc_new _ _)) Try.underlying104 rfl HS.out ?_))
  refine boxes_none.mono ?_
  rintro e w2 ⟨a, c, rfl, g2⟩
  go_wp2_with fail
  go_ret2
  exact ⟨a, c, rfl, ((g1.alloc _).setRow g1.le _).trans g2⟩

set_option maxHeartbeats 1000000 in
set_option maxRecDepth 100000 in
theorem fmeet_bad {v v' : Value} {l r : List BoxI} {w : World} (hl : RdF w v l) (hr : RdF w v' r) (hc : (chkF2 l r == 0) = false) :
    Calls Try.prog 31 #[v, v'] w fun e w' => ∃ a c, e = .returned (.tuple #[.slice a 0 c, .int .i64 (chkF2 l r)]) ∧ Gr w w' := by
  have HS : Hid ((Try.prog.info? 104).map (·.size) = some (tArr fun _ => 0).size) := by rw [tArr_size]; exact table_info
  have H1 := Lib.hid (tArr_one fun _ => 0)
  have HCC := Lib.hid (fcombine_bad 72 v v' l r w hl hr hc)
  clear hl hr hc
  go_enter Try.func31, Try.ntmps31
  go_wp2_with fail
  refine HCC.out.mono ?_
  rintro e w1 ⟨rfl, g1⟩
  go_wp2_with (first
    | (refine wpList_store_row rfl 104 (.tmp 6) (.tmp 12) rfl w1.heap.size (tArr fun _ => 0) rfl rfl 104 _ (heap_alloc_new _ _) HS.out rfl H1.out ?_)
    | (refine wpList_load_row rfl 104 _ rfl w1.heap.size rfl 104 (tArr fun _ => 0) (0, 0) _ (setRow_heap _ _ _ _ _ _ (heap_alloc_new _ _)) Try.underlying104 rfl HS.out ?_))
  refine boxes_none.mono ?_
  rintro e w2 ⟨a, c, rfl, g2⟩
  go_wp2_with fail
  go_ret2
  exact ⟨a, c, rfl, ((g1.alloc _).setRow g1.le _).trans g2⟩

set_option maxHeartbeats 1000000 in
set_option maxRecDepth 100000 in
theorem fless_bad {v v' : Value} {l r : List BoxI} {w : World} (hl : RdF w v l) (hr : RdF w v' r) (hc : (chkF2 l r == 0) = false) :
    Calls Try.prog 32 #[v, v'] w fun e w' => ∃ a c, e = .returned (.tuple #[.slice a 0 c, .int .i64 (chkF2 l r)]) ∧ Gr w w' := by
  have HS : Hid ((Try.prog.info? 104).map (·.size) = some (tArr fun _ => 0).size) := by rw [tArr_size]; exact table_info
  have H1 := Lib.hid (tArr_one fun _ => 0)
  have HCC := Lib.hid (fcombine_bad 73 v v' l r w hl hr hc)
  clear hl hr hc
  go_enter Try.func32, Try.ntmps32
  go_wp2_with fail
  refine HCC.out.mono ?_
  rintro e w1 ⟨rfl, g1⟩
  go_wp2_with (first
    | (refine wpList_store_row rfl 104 (.tmp 6) (.tmp 12) rfl w1.heap.size (tArr fun _ => 0) rfl rfl 104 _ (heap_alloc_new _ _) HS.out rfl H1.out ?_)
    | (refine wpList_load_row rfl 104 _ rfl w1.heap.size rfl 104 (tArr fun _ => 0) (0, 0) _ (setRow_heap _ _ _ _ _ _ (heap_alloc_new _ _)) Try.underlying104 rfl HS.out ?_))
  refine boxes_none.mono ?_
  rintro e w2 ⟨a, c, rfl, g2⟩
  go_wp2_with fail
  go_ret2
  exact ⟨a, c, rfl, ((g1.alloc _).setRow g1.le _).trans g2⟩

set_option maxHeartbeats 1000000 in
set_option maxRecDepth 100000 in
theorem fsame_bad {v v' : Value} {l r : List BoxI} {w : World} (hl : RdF w v l) (hr : RdF w v' r) (hc : (chkF2 l r == 0) = false) :
    Calls Try.prog 65 #[v, v'] w fun e w' => e = .returned (.tuple #[.bool false, .int .i64 (chkF2 l r)]) ∧ Gr w w' := by
  have HS : Hid ((Try.prog.info? 104).map (·.size) = some (tArr fun _ => 0).size) := by rw [tArr_size]; exact table_info
  have H1 := Lib.hid (tArr_one fun _ => 0)
  have HCC := Lib.hid (fcombine_bad 87 v v' l r w hl hr hc)
  clear hl hr
  go_enter Try.func65, Try.ntmps65
  go_wp2_with fail
  refine HCC.out.mono ?_
  rintro e w1 ⟨rfl, g1⟩
  go_wp2_with (first
    | (refine wpList_store_row rfl 104 (.tmp 6) (.tmp 12) rfl w1.heap.size (tArr fun _ => 0) rfl rfl 104 _ (heap_alloc_new _ _) HS.out rfl H1.out ?_))
  go_ret2
  exact ⟨rfl, (g1.alloc _).setRow g1.le _⟩

set_option maxHeartbeats 1000000 in
set_option maxRecDepth 100000 in
theorem fsame_ok {v v' : Value} {T U : Nat → Nat} {w : World} (h : FS w v T) (h' : FS w v' U) :
    Calls Try.prog 65 #[v, v'] w fun e w' => e = .returned (.tuple #[.bool (sameT T U), .int .i64 0]) ∧ Gr w w' := by
  obtain ⟨F, h1, hF, hl1, t1⟩ := h
  obtain ⟨G, h2, hG, hl2, t2⟩ := h'
  obtain ⟨R, hR0⟩ : ∃ R : Nat → Nat, R = fun t => tabF F t ^^^ tabF G t := ⟨_, rfl⟩
  have hR : ∀ t, R t = tabF F t ^^^ tabF G t := fun t => by rw [hR0]
  have HS : Hid ((Try.prog.info? 104).map (·.size) = some (tArr R).size) := by rw [tArr_size]; exact table_info
  have HSZ : Hid ((tArr fun _ => 0).size = (tArr R).size) := by rw [tArr_size, tArr_size]; rfl
  have H1 := Lib.hid (tArr_one R)
  have HE : eqT R (fun _ => 0) = sameT T U := by
    rw [eqT_zero]
    exact allT_congr fun t ht => by rw [hR, Bool.eq_iff_iff, beq_iff_eq, beq_iff_eq, xor_zero, t1 t ht, t2 t ht]
  have hq : ∀ wx : World, (Op.equalIn 10000 104 (.agg (tArr R)) (.agg #[.int .u64 0, .int .u64 0, .int .u64 0, .int .u64 0, .int .u64 0, .int .u64 0, .int .u64 0, .int .u64 0, .int .u64 0, .int .u64 0, .int .u64 0, .int .u64 0, .int .u64 0, .int .u64 0, .int .u64 0, .int .u64 0])).run Try.prog wx = .ok (sameT T U) wx := fun wx => by
    rw [← HE]
    exact eq_tables R (fun _ => 0) wx
  have HCC := Lib.hid (fcombine_same v v' F G w h1 h2 hF hG hl1 hl2)
  rw [← hR0] at HCC
  clear h1 h2 hF hG hl1 hl2 t1 t2 hR hR0 HE
  go_enter Try.func65, Try.ntmps65
  go_wp2_with fail
  refine HCC.out.mono ?_
  rintro e w1 ⟨rfl, g1⟩
  go_wp2_with (first
    | (refine wpList_store_row rfl 104 (.tmp 6) (.tmp 12) rfl w1.heap.size (tArr R) rfl rfl 104 _ (heap_alloc_new _ _) HS.out HSZ.out H1.out ?_)
    | (refine wpList_load_row_g rfl 104 (.tmp 6) rfl w1.heap.size rfl 104 (tArr R) (0, 0) _ (setRow_heap _ _ _ _ _ _ (heap_alloc_new _ _)) Try.underlying104 rfl HS.out ?_))
  go_ret2
  exact ⟨rfl, (g1.alloc _).setRow g1.le _⟩
end Go.Proofs.Ythnoafmdecehcaa
