/- The parser of package text: a node is added (a drawn region, over any state of the frame). -/
import Derived.Test.YtbodadddcbbjeaaDoorTextB
namespace Go.Proofs.YtbodadddcbbjeaaDoor
open Go.RowKit Rm
set_option linter.unusedVariables false
set_option linter.unusedSimpArgs false
theorem addn_info : (Tryd.prog.info? 30).map (·.size) = some 3 := by kernel_rfl
section
variable (ev : Operand → Value) (d : Option Tmp) (ty : TypeId) (p : String) (af : Array Edge) (g : Option (Nat × Bool)) (w : World)
theorem rp_nil (x : Operand) (ad : Addr) (h : ev x = .pointer (some ad)) : (execOp ev (Oper.mk d (.nilCheck x) ty p af g)).run Tryd.prog w = .ok (.value (.pointer (some ad))) w := by
  go_simp
theorem rp_field (x : Operand) (B : Nat) (h : ev x = .pointer (some ⟨B, 0, none⟩)) : (execOp ev (Oper.mk d (.fieldAddr 78 x 1) ty p af g)).run Tryd.prog w = .ok (.value (.pointer (some ⟨B, 1, none⟩))) w := by
  go_simp
theorem rp_load (x : Operand) (B n c : Nat) (a : Option Addr) (h : ev x = .pointer (some ⟨B, 1, none⟩)) (hc : w.cell? ⟨B, 1, none⟩ = some (.slice a n c)) : (execOp ev (Oper.mk d (.load 22 x) ty p af g)).run Tryd.prog w = .ok (.value (.slice a n c)) w := by
  go_simp
theorem rp_loadN (x : Operand) (B : Nat) (k a b : Int) (h : ev x = .pointer (some ⟨B, 0, none⟩)) (hc : w.heap[B]? = some (.cells #[.int .i64 k, .int .i64 a, .int .i64 b] 30 (0, 0))) : (execOp ev (Oper.mk d (.load 30 x) ty p af g)).run Tryd.prog w = .ok (.value (.agg #[.int .i64 k, .int .i64 a, .int .i64 b])) w := by
  unfold execOp
  simp only [h, Instr.loadAt, Instr.sureAddr, Sem.run_bind, Sem.run_pure, Result.andThen_ok, run_loadVar_row w B 30 30 #[.int .i64 k, .int .i64 a, .int .i64 b] (0, 0) _ hc Tryd.underlying30 rfl addn_info]
theorem rp_slice1 (x : Operand) (k a b : Int) (hx : ev x = .agg #[.int .i64 k, .int .i64 a, .int .i64 b]) : (execOp ev (Oper.mk d (.buildSlice 22 1 #[(0, x)]) ty p af g)).run Tryd.prog w = .ok (.value (.slice (some ⟨w.heap.size, 0, none⟩) 1 1)) (w.alloc (.cells #[.int .i64 k, .int .i64 a, .int .i64 b] 30)) := by
  go_simp
theorem rp_store (x y : Operand) (ad : Addr) (u : Value) (a : Option Addr) (n c : Nat) (h : ev x = .pointer (some ad)) (hy : ev y = .slice a n c) (hc : w.cell? ad = some u) (hf : w.frozen? ad = false) : (execOp ev (Oper.mk d (.store 22 x y) ty p af g)).run Tryd.prog w = .ok .skip (w.setCell ad (.slice a n c)) := by
  go_simp
end
theorem re_wstore {Q : Exit → Act → World → Prop} {oi : Oper} {a : Act} {w w' : World} {K : Act → World → Prop} (hd : oi.dst = none) (hrun : (execOp a.eval oi).run Tryd.prog w = .ok .skip w') (h : K a w') : Oper.wp Tryd.prog oi a w K Q := by
  unfold Oper.wp
  rw [hrun, Oper.upon_skip, hd]
  exact h
def pa_0 : Oper := Oper.mk (some 5) (Op.move (Operand.tmp 0)) 92 "text.go:169" #[] none
def pa_1 : Oper := Oper.mk (some 6) (Op.move (Operand.tmp 0)) 92 "text.go:169" #[] none
def pa_2 : Oper := Oper.mk (some 7) (Op.nilCheck (Operand.tmp 6)) 0 "text.go:169" #[Edge.mk 1 Ground.data] none
def pa_3 : Oper := Oper.mk (some 8) (Op.fieldAddr 78 (Operand.tmp 7) 1) 0 "text.go:169" #[Edge.mk 2 Ground.data] none
def pa_4 : Oper := Oper.mk (some 9) (Op.load 22 (Operand.tmp 8)) 22 "text.go:169" #[Edge.mk 3 Ground.data] none
def pa_5 : Oper := Oper.mk (some 10) (Op.load 30 (Operand.tmp 3)) 30 "text.go:169" #[] none
def pa_6 : Oper := Oper.mk (some 11) (Op.buildSlice 22 1 #[(0, Operand.tmp 10)]) 22 "text.go:169" #[Edge.mk 5 Ground.data] none
def pa_7 : Oper := Oper.mk (some 12) (Op.call (Call.mk (Callee.builtin Builtin.append) #[Operand.tmp 9, Operand.tmp 11] #[22, 22])) 22 "text.go:169" #[Edge.mk 4 Ground.data, Edge.mk 6 Ground.data] none
def pa_8 : Oper := Oper.mk (some 13) (Op.nilCheck (Operand.tmp 5)) 0 "text.go:169" #[Edge.mk 0 Ground.data, Edge.mk 0 Ground.phase, Edge.mk 1 Ground.phase, Edge.mk 2 Ground.phase, Edge.mk 3 Ground.phase, Edge.mk 4 Ground.phase, Edge.mk 5 Ground.phase, Edge.mk 6 Ground.phase, Edge.mk 7 Ground.phase] none
def pa_9 : Oper := Oper.mk (some 14) (Op.fieldAddr 78 (Operand.tmp 13) 1) 0 "text.go:169" #[Edge.mk 8 Ground.data, Edge.mk 0 Ground.phase, Edge.mk 1 Ground.phase, Edge.mk 2 Ground.phase, Edge.mk 3 Ground.phase, Edge.mk 4 Ground.phase, Edge.mk 5 Ground.phase, Edge.mk 6 Ground.phase, Edge.mk 7 Ground.phase] none
def pa_10 : Oper := Oper.mk none (Op.store 22 (Operand.tmp 14) (Operand.tmp 12)) 0 "text.go:169" #[Edge.mk 9 Ground.data, Edge.mk 7 Ground.data, Edge.mk 7 Ground.chain, Edge.mk 0 Ground.phase, Edge.mk 1 Ground.phase, Edge.mk 2 Ground.phase, Edge.mk 3 Ground.phase, Edge.mk 4 Ground.phase, Edge.mk 5 Ground.phase, Edge.mk 6 Ground.phase, Edge.mk 7 Ground.phase] none
def pa_Ops : Array Oper := #[pa_0, pa_1, pa_2, pa_3, pa_4, pa_5, pa_6, pa_7, pa_8, pa_9, pa_10]

set_option maxHeartbeats 1000000 in
set_option maxRecDepth 100000 in
theorem pa_end (Q : Exit → Act → World → Prop) (hQ : ∀ c a d v w, Q (.panic c) (Act.put a (some d) v) w → Q (.panic c) a w) (a : Act) (w3 : World) (B nb : Nat) (k x y : Int) (u : Value) (a3 : Option Addr) (n c3 : Nat) (hsz : a.tmps.size = 21) (h5 : a.eval (.tmp 5) = .pointer (some ⟨B, 0, none⟩)) (h12 : a.eval (.tmp 12) = .slice a3 n c3)
    (hn3 : w3.heap[nb]? = some (.cells #[.int .i64 k, .int .i64 x, .int .i64 y] 30 (0, 0))) (hnB : nb ≠ B) (d1 : w3.cell? ⟨B, 1, none⟩ = some u) (d2 : w3.frozen? ⟨B, 1, none⟩ = false)
    (h : Q .normal (Act.put (Act.put a (some 13) (.pointer (some ⟨B, 0, none⟩))) (some 14) (.pointer (some ⟨B, 1, none⟩))) (w3.setCell ⟨B, 1, none⟩ (.slice a3 n c3))) :
    wpAnyH Tryd.prog .any pa_Ops Q (fun z => z.heap[nb]? = some (.cells #[.int .i64 k, .int .i64 x, .int .i64 y] 30 (0, 0))) 3 (Array.setIfInBounds (Array.setIfInBounds (Array.setIfInBounds (Array.setIfInBounds (Array.setIfInBounds (Array.setIfInBounds (Array.setIfInBounds (Array.setIfInBounds (Array.replicate 11 false) 0 true) 1 true) 2 true) 3 true) 5 true) 4 true) 6 true) 7 true) a w3 := by
  refine re_tk (i := 8) (oi := pa_8) (v := .pointer (some ⟨B, 0, none⟩)) (d := 13) hQ rfl rfl (by kernel_rfl) (by kernel_rfl) (by kernel_rfl) (Or.inl ⟨re_none _ rfl, fun wx hS => rp_nil _ _ _ _ _ _ _ _ ⟨B, 0, none⟩ (by simp [re_ne, re_eq, re_size, re_const, hsz, h5, h12])⟩) hn3 ?_
  refine re_tk (i := 9) (oi := pa_9) (v := .pointer (some ⟨B, 1, none⟩)) (d := 14) hQ rfl rfl (by kernel_rfl) (by kernel_rfl) (by kernel_rfl) (Or.inl ⟨re_none _ rfl, fun wx hS => rp_field _ _ _ _ _ _ _ _ B (by simp [re_ne, re_eq, re_size, re_const, hsz, h5, h12])⟩) hn3 ?_
  refine re_one (i := 10) (oi := pa_10) (by kernel_rfl) rfl (re_none _ rfl) (fun K hK => ?_)
  refine re_wstore rfl (rp_store _ _ _ _ _ _ _ _ _ ⟨B, 1, none⟩ u a3 n c3 (by simp [re_ne, re_eq, re_size, re_const, hsz, h5, h12]) (by simp [re_ne, re_eq, re_size, re_const, hsz, h5, h12]) d1 d2) (hK _ _ ?_ ?_)
  · show (w3.setCell ⟨B, 1, none⟩ (.slice a3 n c3)).heap[nb]? = _
    rw [heap_setCell_other _ _ _ _ (by simpa using hnB)]
    exact hn3
  exact wpAnyH_done (by kernel_rfl) h _

set_option maxHeartbeats 1000000 in
set_option maxRecDepth 100000 in
theorem pa_mid (Q : Exit → Act → World → Prop) (a : Act) (w : World) (B nb : Nat) (s : List UInt8) (l : List Nd) (ua : Option Addr) (uc : Nat) (k x y : Int) (hsz : a.tmps.size = 21) (h8 : a.eval (.tmp 8) = .pointer (some ⟨B, 1, none⟩)) (h10 : a.eval (.tmp 10) = .agg #[.int .i64 k, .int .i64 x, .int .i64 y])
    (hB : w.heap[B]? = some (.cells #[.string (str s), .slice ua l.length uc] 78 (0, 0))) (hnb : w.heap[nb]? = some (.cells #[.int .i64 k, .int .i64 x, .int .i64 y] 30 (0, 0)))
    (T : wpAnyH Tryd.prog .any pa_Ops Q (fun z => z.heap[nb]? = some (.cells #[.int .i64 k, .int .i64 x, .int .i64 y] 30 (0, 0))) 4 (Array.setIfInBounds (Array.setIfInBounds (Array.setIfInBounds (Array.setIfInBounds (Array.setIfInBounds (Array.setIfInBounds (Array.setIfInBounds (Array.replicate 11 false) 0 true) 1 true) 2 true) 3 true) 5 true) 4 true) 6 true) (Act.put (Act.put a (some 9) (.slice ua l.length uc)) (some 11) (.slice (some ⟨w.drew.heap.size, 0, none⟩) 1 1)) (w.drew.alloc (.cells #[.int .i64 k, .int .i64 x, .int .i64 y] 30))) :
    wpAnyH Tryd.prog .any pa_Ops Q (fun z => z.heap[nb]? = some (.cells #[.int .i64 k, .int .i64 x, .int .i64 y] 30 (0, 0))) 6 (Array.setIfInBounds (Array.setIfInBounds (Array.setIfInBounds (Array.setIfInBounds (Array.setIfInBounds (Array.replicate 11 false) 0 true) 1 true) 2 true) 3 true) 5 true) a w.drew := by
  have g1 : Gr w (w.drew.alloc (.cells #[.int .i64 k, .int .i64 x, .int .i64 y] 30)) := (Gr.refl w).drew.alloc _
  have hB1 := (Below.block g1 _ (Blk_lt hB)).trans hB
  have hn1 := (Below.block g1 _ (Blk_lt hnb)).trans hnb
  have hl : (Array.setIfInBounds (Array.setIfInBounds (Array.setIfInBounds (Array.setIfInBounds (Array.setIfInBounds (Array.setIfInBounds (Array.setIfInBounds (Array.replicate 11 false) 0 true) 1 true) 2 true) 3 true) 5 true) 6 true) 4 true) = (Array.setIfInBounds (Array.setIfInBounds (Array.setIfInBounds (Array.setIfInBounds (Array.setIfInBounds (Array.setIfInBounds (Array.setIfInBounds (Array.replicate 11 false) 0 true) 1 true) 2 true) 3 true) 5 true) 4 true) 6 true) := by kernel_rfl
  refine re_pair (i := 4) (j := 6) (oi := pa_4) (oj := pa_6) (by kernel_rfl) rfl rfl (re_none _ rfl) (re_none _ rfl) (fun K hK => ?_) (fun K hK => ?_)
  · refine re_wval (d := 9) rfl (rp_load _ _ _ _ _ _ _ _ B l.length uc ua (by simp [re_ne, re_eq, re_size, re_const, hsz, h8, h10]) (by rw [cell_of_row w.drew _ _ _ _ _ hB]; rfl)) (hK _ _ hnb ?_)
    refine re_one (i := 6) (oi := pa_6) (by kernel_rfl) rfl (re_none _ rfl) (fun K hK => ?_)
    exact re_wval (d := 11) rfl (rp_slice1 _ _ _ _ _ _ _ _ k x y (by simp [re_ne, re_eq, re_size, re_const, hsz, h8, h10])) (hK _ _ hn1 T)
  · refine re_wval (d := 11) rfl (rp_slice1 _ _ _ _ _ _ _ _ k x y (by simp [re_ne, re_eq, re_size, re_const, hsz, h8, h10])) (hK _ _ hn1 ?_)
    refine re_one (i := 4) (oi := pa_4) (by kernel_rfl) rfl (re_none _ rfl) (fun K hK => ?_)
    refine re_wval (d := 9) rfl (rp_load _ _ _ _ _ _ _ _ B l.length uc ua (by simp [re_ne, re_eq, re_size, re_const, hsz, h8, h10]) (by rw [cell_of_row _ _ _ _ _ _ hB1]; rfl)) (hK _ _ hn1 ?_)
    rw [re_comm _ 11 9 _ _ (by decide), hl]
    exact T

set_option maxHeartbeats 400000 in
set_option maxRecDepth 100000 in
theorem pa_tail (Q : Exit → Act → World → Prop) (hQ : ∀ c a d v w, Q (.panic c) (Act.put a (some d) v) w → Q (.panic c) a w) (a : Act) (w0 w : World) (B nb : Nat) (s : List UInt8) (l : List Nd) (ua : Option Addr) (uc : Nat) (k x y : Int) (hsz : a.tmps.size = 21) (h0 : a.eval (.tmp 0) = .pointer (some ⟨B, 0, none⟩)) (h3 : a.eval (.tmp 3) = .pointer (some ⟨nb, 0, none⟩))
    (hB : w.heap[B]? = some (.cells #[.string (str s), .slice ua l.length uc] 78 (0, 0))) (hnb : w.heap[nb]? = some (.cells #[.int .i64 k, .int .i64 x, .int .i64 y] 30 (0, 0))) (hg : Gr w0 w) (hwB : w0.heap.size ≤ B) (hown : OwnN w0.heap.size w (.slice ua l.length uc) l) (hno : (Value.slice ua l.length uc).ownBlock ≠ some nb) (hl : l.length ≤ 5000)
    (h : ∀ w' c2 a3 n3, PAt w0 w' B s (l ++ [(k, x, y)]) → PTyp w w' → w'.cell? ⟨B, 1, none⟩ = some (.slice a3 (l.length + 1) n3) → l.length + 1 ≤ n3 → Q .normal (Act.put (Act.put (Act.put (Act.put (Act.put (Act.put (Act.put (Act.put (Act.put (Act.put a (some 5) (.pointer (some ⟨B, 0, none⟩))) (some 6) (.pointer (some ⟨B, 0, none⟩))) (some 7) (.pointer (some ⟨B, 0, none⟩))) (some 8) (.pointer (some ⟨B, 1, none⟩))) (some 10) (.agg #[.int .i64 k, .int .i64 x, .int .i64 y])) (some 9) (.slice ua l.length uc)) (some 11) (c2)) (some 12) (.slice a3 (l.length + 1) n3)) (some 13) (.pointer (some ⟨B, 0, none⟩))) (some 14) (.pointer (some ⟨B, 1, none⟩))) w') :
    wpAnyH Tryd.prog .any pa_Ops Q (fun z => z.heap[nb]? = some (.cells #[.int .i64 k, .int .i64 x, .int .i64 y] 30 (0, 0))) 4 (Array.setIfInBounds (Array.setIfInBounds (Array.setIfInBounds (Array.setIfInBounds (Array.setIfInBounds (Array.setIfInBounds (Array.setIfInBounds (Array.replicate 11 false) 0 true) 1 true) 2 true) 3 true) 5 true) 4 true) 6 true) (Act.put (Act.put (Act.put (Act.put (Act.put (Act.put (Act.put a (some 5) (.pointer (some ⟨B, 0, none⟩))) (some 6) (.pointer (some ⟨B, 0, none⟩))) (some 7) (.pointer (some ⟨B, 0, none⟩))) (some 8) (.pointer (some ⟨B, 1, none⟩))) (some 10) (.agg #[.int .i64 k, .int .i64 x, .int .i64 y])) (some 9) (.slice ua l.length uc)) (some 11) (.slice (some ⟨w.drew.heap.size, 0, none⟩) 1 1)) (w.drew.alloc (.cells #[.int .i64 k, .int .i64 x, .int .i64 y] 30)) := by
  obtain ⟨i0, hi0, hz0, hz1, hz2⟩ := info_parts node_info
  have hne := own_ne hown hB (by decide)
  have g1 : Gr w (w.drew.alloc (.cells #[.int .i64 k, .int .i64 x, .int .i64 y] 30)) := (Gr.refl w).drew.alloc _
  have hB1 := (Below.block g1 _ (Blk_lt hB)).trans hB
  have hn1 := (Below.block g1 _ (Blk_lt hnb)).trans hnb
  have hnew : ∀ j u, ([.int .i64 k, .int .i64 x, .int .i64 y] : List Value)[j]? = some u → (w.drew.alloc (.cells #[.int .i64 k, .int .i64 x, .int .i64 y] 30)).cell? ((⟨w.drew.heap.size, 0, none⟩ : Addr).add j) = some u := by
    have := newK w.drew [.int .i64 k, .int .i64 x, .int .i64 y] 30
    simpa using this
  have ho1 : OwnN w0.heap.size (w.drew.alloc (.cells #[.int .i64 k, .int .i64 x, .int .i64 y] 30)) (.slice ua l.length uc) l := hown.gr g1
  have hb1 : w0.heap.size ≤ (w.drew.alloc (.cells #[.int .i64 k, .int .i64 x, .int .i64 y] 30)).heap.size := (hg.trans g1).le
  generalize hc2 : w.drew.heap.size = nz at *
  generalize hw1 : w.drew.alloc (.cells #[.int .i64 k, .int .i64 x, .int .i64 y] 30) = w1 at *
  refine re_one (i := 7) (oi := pa_7) (by kernel_rfl) rfl (re_none _ rfl) (fun K hK => ?_)
  refine wp_append_own _ (.tmp 9) (.tmp 11) 22 rfl w0.heap.size 30 i0 _ 3 24 Tryd.underlying22 hi0 hz0 hz1 hz2 rfl (by omega) (.slice ua l.length uc) l.length (flatN l) (by simp [re_ne, re_eq, re_size, re_const, hsz, h0, h3]) ho1 ⟨nz, 0, none⟩ 1 1 [.int .i64 k, .int .i64 x, .int .i64 y] (by simp [re_ne, re_eq, re_size, re_const, hsz, h0, h3]) rfl hnew (by simp [Value.oneCell']) (by simp only [maxLen]; omega) (by omega) hb1 ?_
  intro c3 w3 hown3 hg3 _
  change K (Act.put _ (some 12) c3) w3
  have hB3 : w3.heap[B]? = some (.cells #[.string (str s), .slice ua l.length uc] 78 (0, 0)) := (hg3.block B (Blk_lt hB1) (fun e => hne e.symm)).trans hB1
  have hn3 : w3.heap[nb]? = some (.cells #[.int .i64 k, .int .i64 x, .int .i64 y] 30 (0, 0)) := (hg3.block nb (Blk_lt hn1) (fun e => hno e.symm)).trans hn1
  obtain ⟨a3, n3, rfl, hn3'⟩ := own_form hown3
  have g3 : Gr w0 w3 := (hg.trans g1).grown hg3 (fun k hk => by have := (World.ownsRow.lt hown k hk).1; omega)
  have p3 : PTyp w w3 := fun j cs t fr hj ht1 ht2 => by
    have hj1 := (Below.block g1 j (Blk_lt hj)).trans hj
    rw [hg3.block j (Blk_lt hj1) (fun e => own_ne hown hj (fun e2 => ht2 e2.symm) e.symm)]
    exact hj1
  have O3 : OwnN w0.heap.size w3 (.slice a3 (l.length + 1) n3) (l ++ [(k, x, y)]) := OwnN.app (r := [(k, x, y)]) hown3 (by simp) rfl
  have d1 : w3.cell? ⟨B, 1, none⟩ = some (.slice ua l.length uc) := by rw [cell_of_row _ _ _ _ _ _ hB3]; rfl
  have d2 := frozen_of_row w3 B 1 _ _ hB3
  have hne3 := own_ne hown3 hB3 (by decide)
  have hnB : nb ≠ B := by rintro rfl; rw [hn3] at hB3; simp at hB3
  have hBl := Blk_lt hB3
  clear hown3 hg3 hnew
  refine hK _ _ hn3 (pa_end Q hQ _ w3 B nb k x y _ a3 (l.length + 1) n3 (by simp [re_ne, re_eq, re_size, re_const, hsz, h0, h3]) (by simp [re_ne, re_eq, re_size, re_const, hsz, h0, h3]) (by simp [re_ne, re_eq, re_size, re_const, hsz, h0, h3]) hn3 hnB d1 d2 (h _ _ _ _ ⟨g3.setCell (p := ⟨B, 1, none⟩) hwB _, hwB, _, heap_setCell_same _ _ _ _ _ _ hB3, ?_⟩ ?_ ?_ hn3'))
  · exact own_far O3 hne3
  · intro j cs t fr hj ht1 ht2
    have hjB : j ≠ B := by rintro rfl; rw [hB] at hj; simp at hj; exact ht1 hj.2.1.symm
    rw [heap_setCell_other _ _ _ _ (by simpa using hjB)]
    exact p3 j cs t fr hj ht1 ht2
  · rw [cell_of_row _ _ _ _ _ _ (heap_setCell_same _ _ _ _ _ _ hB3)]
    rfl

set_option maxHeartbeats 400000 in
set_option maxRecDepth 100000 in
theorem pa_reg (Q : Exit → Act → World → Prop) (hQ : ∀ c a d v w, Q (.panic c) (Act.put a (some d) v) w → Q (.panic c) a w) (a : Act) (w0 w : World) (B nb : Nat) (s : List UInt8) (l : List Nd) (ua : Option Addr) (uc : Nat) (k x y : Int) (hsz : a.tmps.size = 21) (h0 : a.eval (.tmp 0) = .pointer (some ⟨B, 0, none⟩)) (h3 : a.eval (.tmp 3) = .pointer (some ⟨nb, 0, none⟩))
    (hB : w.heap[B]? = some (.cells #[.string (str s), .slice ua l.length uc] 78 (0, 0))) (hnb : w.heap[nb]? = some (.cells #[.int .i64 k, .int .i64 x, .int .i64 y] 30 (0, 0))) (hg : Gr w0 w) (hwB : w0.heap.size ≤ B) (hown : OwnN w0.heap.size w (.slice ua l.length uc) l) (hno : (Value.slice ua l.length uc).ownBlock ≠ some nb) (hl : l.length ≤ 5000)
    (h : ∀ w' c2 a3 n3, PAt w0 w' B s (l ++ [(k, x, y)]) → PTyp w w' → w'.cell? ⟨B, 1, none⟩ = some (.slice a3 (l.length + 1) n3) → l.length + 1 ≤ n3 → Q .normal (Act.put (Act.put (Act.put (Act.put (Act.put (Act.put (Act.put (Act.put (Act.put (Act.put a (some 5) (.pointer (some ⟨B, 0, none⟩))) (some 6) (.pointer (some ⟨B, 0, none⟩))) (some 7) (.pointer (some ⟨B, 0, none⟩))) (some 8) (.pointer (some ⟨B, 1, none⟩))) (some 10) (.agg #[.int .i64 k, .int .i64 x, .int .i64 y])) (some 9) (.slice ua l.length uc)) (some 11) (c2)) (some 12) (.slice a3 (l.length + 1) n3)) (some 13) (.pointer (some ⟨B, 0, none⟩))) (some 14) (.pointer (some ⟨B, 1, none⟩))) w') : (Code.region 1 pa_Ops true).wp Tryd.prog Q a w := by
  refine wp_region_held_drew (S := fun z => z.heap[nb]? = some (.cells #[.int .i64 k, .int .i64 x, .int .i64 y] 30 (0, 0))) (by kernel_rfl) hnb (fun hHeld => ?_)
  show wpAnyH Tryd.prog .any pa_Ops Q _ 11 (Array.replicate 11 false) a w.drew
  refine re_tk (i := 0) (oi := pa_0) (v := .pointer (some ⟨B, 0, none⟩)) (d := 5) hQ rfl rfl (by kernel_rfl) (by kernel_rfl) (by kernel_rfl) (Or.inl ⟨re_none _ rfl, fun wx hS => rr_move _ _ _ _ _ _ _ _ _ (by simp [re_ne, re_eq, re_size, re_const, hsz, h0, h3])⟩) hHeld ?_
  refine re_tk (i := 1) (oi := pa_1) (v := .pointer (some ⟨B, 0, none⟩)) (d := 6) hQ rfl rfl (by kernel_rfl) (by kernel_rfl) (by kernel_rfl) (Or.inl ⟨re_none _ rfl, fun wx hS => rr_move _ _ _ _ _ _ _ _ _ (by simp [re_ne, re_eq, re_size, re_const, hsz, h0, h3])⟩) hHeld ?_
  refine re_tk (i := 2) (oi := pa_2) (v := .pointer (some ⟨B, 0, none⟩)) (d := 7) hQ rfl rfl (by kernel_rfl) (by kernel_rfl) (by kernel_rfl) (Or.inl ⟨re_none _ rfl, fun wx hS => rp_nil _ _ _ _ _ _ _ _ ⟨B, 0, none⟩ (by simp [re_ne, re_eq, re_size, re_const, hsz, h0, h3])⟩) hHeld ?_
  refine re_tk (i := 3) (oi := pa_3) (v := .pointer (some ⟨B, 1, none⟩)) (d := 8) hQ rfl rfl (by kernel_rfl) (by kernel_rfl) (by kernel_rfl) (Or.inl ⟨re_none _ rfl, fun wx hS => rp_field _ _ _ _ _ _ _ _ B (by simp [re_ne, re_eq, re_size, re_const, hsz, h0, h3])⟩) hHeld ?_
  refine re_tk (i := 5) (oi := pa_5) (v := .agg #[.int .i64 k, .int .i64 x, .int .i64 y]) (d := 10) hQ rfl rfl (by kernel_rfl) (by kernel_rfl) (by kernel_rfl) (Or.inl ⟨re_none _ rfl, fun wx hS => rp_loadN _ _ _ _ _ _ _ _ nb k x y (by simp [re_ne, re_eq, re_size, re_const, hsz, h0, h3]) hS⟩) hHeld ?_
  exact pa_mid Q _ w B nb s l ua uc k x y (by simp [re_ne, re_eq, re_size, re_const, hsz, h0, h3]) (by simp [re_ne, re_eq, re_size, re_const, hsz, h0, h3]) (by simp [re_ne, re_eq, re_size, re_const, hsz, h0, h3]) hB hnb (pa_tail Q hQ a w0 w B nb s l ua uc k x y hsz h0 h3 hB hnb hg hwB hown hno hl h)

set_option maxHeartbeats 1000000 in
set_option maxRecDepth 100000 in
theorem padd_any {w0 w : World} {B : Nat} {s : List UInt8} {l : List Nd} (h : PAt w0 w B s l) (hl : l.length ≤ 5000) (k a b : Int) :
    Calls Tryd.prog 56 #[.pointer (some ⟨B, 0, none⟩), .agg #[.int .i64 k, .int .i64 a, .int .i64 b]] w fun e w' => Took w0 w B (.int .i64 (l.length : Int)) s (l ++ [(k, a, b)]) e w' := by
  obtain ⟨h1, h2, u, h3, h4⟩ := h
  obtain ⟨ua, uc, rfl, huc⟩ := own_form h4
  have g1 : Gr w (w.alloc (.cells #[.int .i64 k, .int .i64 a, .int .i64 b] 30)) := (Gr.refl w).alloc _
  have hno : (Value.slice ua l.length uc).ownBlock ≠ some w.heap.size := fun e => by have := (World.ownsRow.lt h4 _ e).2; omega
  have hl' : (l.length : Int) ≤ 5000 := by omega
  have hsub : (l.length : Int) + 1 - 1 = (l.length : Int) := by omega
  have R := Lib.hid (fun Q hQ A hsz h0 hh3 hh => pa_reg Q hQ A w0 (w.alloc (.cells #[.int .i64 k, .int .i64 a, .int .i64 b] 30)) B w.heap.size s l ua uc k a b hsz h0 hh3 ((Below.block g1 _ (Blk_lt h3)).trans h3) (heap_alloc_new _ _) (h1.trans g1) h2 (h4.gr g1) hno hl hh)
  have G1 := Lib.hid g1
  clear h3 h4 hno g1
  go_enter Tryd.func56, Tryd.ntmps56
  go_wp2
  refine R.out _ (fun _ _ _ _ _ h => h) _ rfl rfl rfl (fun w' c2 a3 n3 hp ht hc hn => ?_)
  simp only [Act.put, List.setIfInBounds_toArray, List.set_cons_zero, List.set_cons_succ]
  have hn' : (l.length : Int) + 1 ≤ (n3 : Int) := by omega
  have hpl : ((l.length + 1 : Nat) : Int) = (l.length : Int) + 1 := by omega
  have HP := Lib.hid hp
  have HT := Lib.hid ht
  clear hp ht
  go_wp2
  go_ret
  exact ⟨rfl, HP.out, (PTyp.of G1.out).trans HT.out⟩
end Go.Proofs.YtbodadddcbbjeaaDoor
