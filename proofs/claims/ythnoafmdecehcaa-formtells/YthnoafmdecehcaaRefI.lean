/- The document's own Says: what its closure may lean on. -/
import Derived.Test.YthnoafmdecehcaaRefH
import Derived.Test.YthnoafmdecehcaaRefE
namespace Go.Proofs.Ythnoafmdecehcaa
open Go.RowKit Rm
set_option linter.unusedVariables false

def saysF (k1 k2 k3 : Nat) : Value := .func (.func 50) #[] #[.pointer (some ⟨k1, 0, none⟩), .pointer (some ⟨k2, 0, none⟩), .pointer (some ⟨k3, 0, none⟩)]
/-- the three variables that the closure holds, and the map -/
def SaysAt (l : List Nd) (v : Value) (w0 w : World) (k1 k2 k3 r : Nat) : Prop :=
  Gr w0 w ∧ RdN w0 v l ∧ w0.heap.size ≤ r ∧ w.heap[k1]? = some (.cells #[.map (some r)] 86 (0, 0)) ∧ w.heap[k2]? = some (.cells #[v] 22 (0, 0)) ∧
  w.heap[k3]? = some (.cells #[saysF k1 k2 k3] 87 (0, 0)) ∧ MemAt l w r
theorem grown_gr {w w' : World} {row : Option Nat} (g : Gr w w') : w.grownBy w' row := ⟨g.os, g.tape, g.output, g.size, fun k hk _ => Below.block g k hk⟩
theorem SaysAt.gr {l : List Nd} {v : Value} {w0 w w' : World} {k1 k2 k3 r : Nat} (h : SaysAt l v w0 w k1 k2 k3 r) (g : Gr w w') : SaysAt l v w0 w' k1 k2 k3 r := by
  obtain ⟨h1, h2, h3, h4, h5, h6, K, c, h7⟩ := h
  exact ⟨h1.trans g, h2, h3, (Below.block g _ (Blk_lt h4)).trans h4, (Below.block g _ (Blk_lt h5)).trans h5, (Below.block g _ (Blk_lt h6)).trans h6, K, c, (Below.block g _ (Blk_lt h7)).trans h7⟩
theorem cells_ne_map {w : World} {k r : Nat} {cs : Array Value} {t : TypeId} {fr : Nat × Nat} {l : List Nd} (h : w.heap[k]? = some (.cells cs t fr)) (hm : MemAt l w r) : some k ≠ some r := by
  rintro e
  obtain ⟨K, c, hm⟩ := hm
  rw [Option.some.inj e, hm] at h
  cases h
theorem SaysAt.keep {l : List Nd} {v : Value} {w0 w w' : World} {k1 k2 k3 r : Nat} (h : SaysAt l v w0 w k1 k2 k3 r) (g : w.grownBy w' (some r)) (hm : MemAt l w' r) : SaysAt l v w0 w' k1 k2 k3 r := by
  obtain ⟨h1, h2, h3, h4, h5, h6, h7⟩ := h
  exact ⟨h1.grown g (fun k hk => by cases hk; exact h3), h2, h3, (g.block _ (Blk_lt h4) (cells_ne_map h4 h7)).trans h4, (g.block _ (Blk_lt h5) (cells_ne_map h5 h7)).trans h5, (g.block _ (Blk_lt h6) (cells_ne_map h6 h7)).trans h6, hm⟩
/-- what the closure answers -/
def SaysPost (l : List Nd) (v : Value) (w0 w : World) (k1 k2 k3 r i : Nat) (e : Ending) (w' : World) : Prop :=
  e = .returned (.agg (pArr (pv l i))) ∧ SaysAt l v w0 w' k1 k2 k3 r ∧ w.grownBy w' (some r)

theorem grown_row {w w' : World} {row : Option Nat} (h : w.grownBy w' row) {N : Nat} (hN : w.heap.size ≤ N) (cs : Array Value) : w.grownBy (w'.setRow N cs) row :=
  ⟨h.os, h.tape, h.output, by have := h.size; simpa using this, fun k hk hne => (setRow_other w' N k cs (by omega)).trans (h.block k hk hne)⟩
theorem SaysAt.row {l : List Nd} {v : Value} {w0 w : World} {k1 k2 k3 r : Nat} (h : SaysAt l v w0 w k1 k2 k3 r) {N : Nat} (hN : w0.heap.size ≤ N) (h1 : k1 < N) (h2 : k2 < N) (h3 : k3 < N) (hr : r < N) (cs : Array Value) : SaysAt l v w0 (w.setRow N cs) k1 k2 k3 r := by
  obtain ⟨a1, a2, a3, a4, a5, a6, K, c, a7⟩ := h
  exact ⟨a1.setRow hN cs, a2, a3, (setRow_other _ _ _ _ (by omega)).trans a4, (setRow_other _ _ _ _ (by omega)).trans a5, (setRow_other _ _ _ _ (by omega)).trans a6, K, c, (setRow_other _ _ _ _ (by omega)).trans a7⟩
theorem SaysAt.lt {l : List Nd} {v : Value} {w0 w : World} {k1 k2 k3 r : Nat} (h : SaysAt l v w0 w k1 k2 k3 r) : k1 < w.heap.size ∧ k2 < w.heap.size ∧ k3 < w.heap.size ∧ r < w.heap.size ∧ w0.heap.size ≤ w.heap.size := by
  obtain ⟨a1, a2, a3, a4, a5, a6, K, c, a7⟩ := h
  exact ⟨Blk_lt a4, Blk_lt a5, Blk_lt a6, Blk_lt a7, a1.le⟩
def midB (f : Nat → Bool) (j i : Nat) : Bool := if i < j then f i else false
theorem midB_step (f : Nat → Bool) (j i : Nat) : (if i = j then f j else midB f j i) = midB f (j + 1) i := by
  unfold midB
  by_cases e1 : i < j
  · rw [if_neg (by omega), if_pos e1, if_pos (by omega)]
  · by_cases e2 : i < j + 1
    · obtain rfl : i = j := by omega
      rw [if_pos rfl, if_pos e2]
    · rw [if_neg (by omega), if_neg e1, if_neg e2]
/-- where the closure's loop stands: the node, and the set that is made -/
def SLoop (W wr : World) (kd na nb : Int) (f : Nat → Bool) : Prop :=
  Gr W wr ∧ wr.heap[W.heap.size]? = some (.cells #[.int .i64 kd, .int .i64 na, .int .i64 nb] 46 (0, 0)) ∧ wr.heap[W.heap.size + 1]? = some (.cells (pArr f) 33 (0, 0))
theorem SLoop.start (W : World) (kd na nb : Int) (f : Nat → Bool) : SLoop W ((W.alloc (.cells #[.int .i64 kd, .int .i64 na, .int .i64 nb] 46)).alloc (.cells (pArr fun _ => false) 33)) kd na nb (midB f 0) := by
  refine ⟨((Gr.refl W).alloc _).alloc _, heap_alloc2_old _ _ _, ?_⟩
  rw [heap_alloc2_new, show pArr (midB f 0) = pArr (fun _ => false) from pArr_ext (fun i _ => by simp [midB])]
theorem SLoop.set {W wr : World} {kd na nb : Int} {f : Nat → Bool} (h : SLoop W wr kd na nb f) (k : Nat) (b : Bool) : SLoop W (wr.setCell ⟨W.heap.size + 1, k, none⟩ (.bool b)) kd na nb (fun i => if i = k then b else f i) := by
  obtain ⟨g, h0, h1⟩ := h
  refine ⟨g.setCell (by show W.heap.size ≤ W.heap.size + 1; omega) _, ?_, ?_⟩
  · rw [heap_setCell_other _ _ _ _ (by show W.heap.size ≠ W.heap.size + 1; omega)]; exact h0
  · rw [heap_setCell_same _ _ _ _ _ _ h1, pArr_set]
theorem SLoop.ext {W wr : World} {kd na nb : Int} {f g : Nat → Bool} (h : SLoop W wr kd na nb f) (e : ∀ i, i < 512 → f i = g i) : SLoop W wr kd na nb g := by rw [SLoop, ← pArr_ext e]; exact h
theorem SLoop.done {W wr : World} {kd na nb : Int} {f : Nat → Bool} (h : SLoop W wr kd na nb (midB f 512)) : SLoop W wr kd na nb f := h.ext (fun i hi => by simp [midB, hi])

set_option maxHeartbeats 2000000 in
set_option maxRecDepth 100000 in
theorem says_found {l : List Nd} {v : Value} {w0 w : World} {k1 k2 k3 r i : Nat} (h : SaysAt l v w0 w k1 k2 k3 r)
    (hlk : (Instr.lookup 86 (.map (some r)) (.int .i64 (i : Int)) true).run Try.prog (w.alloc (.cells (pArr fun _ => false) 33)) = .ok (.tuple #[.agg (pArr (pv l i)), .bool true]) (w.alloc (.cells (pArr fun _ => false) 33))) :
    Calls Try.prog 50 #[.int .i64 (i : Int), .pointer (some ⟨k1, 0, none⟩), .pointer (some ⟨k2, 0, none⟩), .pointer (some ⟨k3, 0, none⟩)] w (SaysPost l v w0 w k1 k2 k3 r i) := by
  have HH := Lib.hid h
  have HLK := Lib.hid hlk
  have hb1 := Blk_lt h.2.2.2.1
  have c1 : w.cell? ⟨k1, 0, none⟩ = some (.map (some r)) := by rw [cell_of_row _ _ _ _ _ _ h.2.2.2.1]; rfl
  have HS := Lib.hid pinfo
  have HPZ := Lib.hid (fun f : Nat → Bool => show (pArr fun _ => false).size = (pArr f).size by rw [pArr_size, pArr_size])
  have HP1 := Lib.hid pArr_one
  have PZ := Lib.hid (fun (ev : Operand → Value) (o : Oper) (ho : o.op = .alloc 33) (wx : World) (N : Nat) (hN : wx.heap.size = N) => run_alloc_at points_zero ev o ho wx N hN)
  have H1 := Lib.hid (heap_alloc2_new w (.cells (pArr fun _ => false) 33) (.cells (pArr fun _ => false) 33))
  have H2 : Hid ((((w.alloc (.cells (pArr fun _ => false) 33)).alloc (.cells (pArr fun _ => false) 33)).setRow (w.heap.size + 1) (pArr (pv l i))).heap[w.heap.size + 1]? = some (.cells (pArr (pv l i)) 33 (0, 0))) := setRow_heap _ _ _ _ _ _ H1.out
  have H3 : Hid ((((w.alloc (.cells (pArr fun _ => false) 33)).alloc (.cells (pArr fun _ => false) 33)).setRow (w.heap.size + 1) (pArr (pv l i))).heap[w.heap.size]? = some (.cells (pArr fun _ => false) 33 (0, 0))) := by
    unfold Hid
    rw [setRow_other _ _ _ _ (by omega)]
    exact heap_alloc2_old _ _ _
  have G : Hid (Gr w (((((w.alloc (.cells (pArr fun _ => false) 33)).alloc (.cells (pArr fun _ => false) 33)).setRow (w.heap.size + 1) (pArr (pv l i)))).setRow w.heap.size (pArr (pv l i)))) := ((((Gr.refl w).alloc _).alloc _).setRow (by omega) _).setRow (by omega) _
  obtain ⟨f, hf⟩ : ∃ f, pv l i = f := ⟨_, rfl⟩
  rw [hf] at HLK H2 H3 G
  have HFF := Lib.hid hf
  clear h hlk hf
  go_enter Try.func50, Try.ntmps50
  go_wp2_with (first
    | (refine Go.Great.wpList_allocTo rfl _ rfl _ _ (PZ.out _ _ rfl _ w.heap.size rfl) ?_)
    | (refine Go.Great.wpList_allocTo rfl _ rfl _ _ (PZ.out _ _ rfl _ (w.heap.size + 1) (by simp)) ?_)
    | (at_lookup; refine wpList_lookup_at rfl _ _ 86 rfl _ _ _ rfl rfl HLK.out ?_)
    | (refine wpList_store_row rfl 33 (.tmp 6) (.tmp 15) rfl (w.heap.size + 1) _ rfl rfl 33 _ H1.out (HS.out _) (HPZ.out _) (HP1.out _) ?_)
    | (refine wpList_load_row rfl 33 (.tmp 6) rfl (w.heap.size + 1) rfl 33 _ (0, 0) _ H2.out Try.underlying33 rfl (HS.out _) ?_)
    | (refine wpList_store_row rfl 33 (.tmp 5) (.tmp 18) rfl w.heap.size _ rfl rfl 33 _ H3.out (HS.out _) (HPZ.out _) (HP1.out _) ?_))
  refine bodyPost_ret (v := .agg (pArr f)) (results_cell_row Try.results50 _ _ w.heap.size 33 _ (0, 0) _ rfl (setRow_heap _ _ _ _ _ _ H3.out) Try.underlying33 rfl (HS.out _)) rfl ?_
  exact ⟨by rw [HFF.out], HH.out.gr G.out, grown_gr G.out⟩
end Go.Proofs.Ythnoafmdecehcaa
