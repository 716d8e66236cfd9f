/- A walk by single laws over any frame: slots as equations, worlds as letters. -/
import Derived.Test.YtghjfakellaecaaPure
import Derived.WalkKit
import Derived.Orders
import Derived.OrdersHeld
import Derived.Deep.RegionHeld
import Derived.Laws.Rows
import Derived.Laws.Tables
import Derived.Laws.CopyOwn
import Derived.Deep.LoopGhost
import Derived.IntWalk
import Derived.Below
set_option linter.unusedVariables false
set_option linter.unusedSimpArgs false
namespace Gx
open Go Go.RowKit Rm
/-! frames -/
structure Ok (N : Nat) (a : Act) : Prop where
  size : a.tmps.size = N
  dfr : a.defers = []
/-- one slot written -/
structure Nx (N : Nat) (a a' : Act) (d : Nat) (v : Value) : Prop where
  ok : Ok N a'
  at_ : a'.eval (.tmp d) = v
  oth : ∀ t, Nat.beq t d = false → a'.eval (.tmp t) = a.eval (.tmp t)
theorem Nx.ne {N d t : Nat} {a a' : Act} {v u : Value} (n : Nx N a a' d v) (h : Nat.beq t d = false) (e : a.eval (.tmp t) = u) : a'.eval (.tmp t) = u := (n.oth t h).trans e
theorem put_ne (a : Act) (d : Nat) (v : Value) (t : Nat) (h : t ≠ d) : (a.put (some d) v).eval (.tmp t) = a.eval (.tmp t) := by
  simp only [Act.put, Act.eval, Array.getD_eq_getD_getElem?]
  rw [Array.getElem?_setIfInBounds_ne (Ne.symm h)]
theorem put_eq (a : Act) (d : Nat) (v : Value) (h : d < a.tmps.size) : (a.put (some d) v).eval (.tmp d) = v := by
  simp only [Act.put, Act.eval, Array.getD_eq_getD_getElem?]
  rw [Array.getElem?_setIfInBounds_self_of_lt h]
  rfl
theorem Nx.put {N d : Nat} {a : Act} (ok : Ok N a) (hd : Nat.blt d N = true) (v : Value) : Nx N a (a.put (some d) v) d v where
  ok := ⟨by rw [← ok.size]; simp [Act.put], by rw [← ok.dfr]; rfl⟩
  at_ := put_eq a d v (by rw [ok.size]; simpa using hd)
  oth t h := put_ne a d v t (Nat.ne_of_beq_eq_false h)
/-- several slots written -/
structure Kp (N : Nat) (a a' : Act) (ds : List Nat) : Prop where
  ok : Ok N a'
  oth : ∀ t, ds.all (fun d => !Nat.beq t d) = true → a'.eval (.tmp t) = a.eval (.tmp t)
theorem Kp.ne {N t : Nat} {a a' : Act} {ds : List Nat} {u : Value} (n : Kp N a a' ds) (h : ds.all (fun d => !Nat.beq t d) = true) (e : a.eval (.tmp t) = u) : a'.eval (.tmp t) = u := (n.oth t h).trans e
theorem Kp.refl {N : Nat} {a : Act} (ok : Ok N a) : Kp N a a [] := ⟨ok, fun _ _ => rfl⟩
theorem Kp.nx {N d : Nat} {a b c : Act} {ds : List Nat} {v : Value} (k : Kp N a b ds) (n : Nx N b c d v) : Kp N a c (d :: ds) :=
  ⟨n.ok, fun t h => by
    rw [List.all_cons, Bool.and_eq_true, Bool.not_eq_true'] at h
    exact (n.oth t h.1).trans (k.oth t h.2)⟩
/-! a list of operations -/
section
variable {P : Program} {ops : Array Oper} {Q : Exit → Act → World → Prop} {rest : List Oper} {o : Oper} {a : Act} {w w' : World} {d N : Nat} {v : Value}
theorem wn (f : Nat → Option Bool) (h : o.guard = none) : Region.wanted o f = true := by unfold Region.wanted; rw [h]
theorem s_step (hw : Region.wanted o (yielded ops a.tmps) = true) (h : o.wp P a w (wpList P ops Q rest) Q) : wpList P ops Q (o :: rest) a w := by
  unfold wpList
  rw [if_pos hw]
  exact .inl h
/-- a value -/
theorem sv (ok : Ok N a) (hd : o.dst = some d) (hw : Region.wanted o (yielded ops a.tmps) = true) (hN : Nat.blt d N = true) (hrun : (execOp a.eval o).run P w = .ok (.value v) w')
    (h : ∀ a', Nx N a a' d v → wpList P ops Q rest a' w') : wpList P ops Q (o :: rest) a w := by
  refine s_step hw ?_
  unfold Oper.wp
  rw [hrun]
  show wpList P ops Q rest (a.put o.dst v) w'
  rw [hd]
  exact h _ (Nx.put ok hN v)
/-- a call -/
theorem sc {f : FuncId} {args : Array Value} {R : Ending → World → Prop} (ok : Ok N a) (hd : o.dst = some d) (hw : Region.wanted o (yielded ops a.tmps) = true) (hN : Nat.blt d N = true) (hrun : (execOp a.eval o).run P w = .ok (.enter f args) w)
    (hc : Calls P f args w R) (h : ∀ e w', R e w' → ∃ v, e = .returned v ∧ ∀ a', Nx N a a' d v → wpList P ops Q rest a' w') : wpList P ops Q (o :: rest) a w := by
  refine s_step hw ?_
  unfold Oper.wp
  rw [hrun, Oper.upon_enter]
  refine hc.mono ?_
  intro e w' hR
  obtain ⟨v, rfl, hk⟩ := h e w' hR
  show wpList P ops Q rest (a.put o.dst v) w'
  rw [hd]
  exact hk _ (Nx.put ok hN v)
/-- one that is not wanted -/
theorem sn (ok : Ok N a) (hd : o.dst = some d) (hw : Region.wanted o (yielded ops a.tmps) = false) (hN : Nat.blt d N = true) (h : ∀ a', Nx N a a' d undef → wpList P ops Q rest a' w) : wpList P ops Q (o :: rest) a w := by
  unfold wpList
  rw [if_neg (by rw [hw]; simp), hd]
  exact h _ (Nx.put ok hN _)
/-- a store -/
theorem ss (hd : o.dst = none) (hw : Region.wanted o (yielded ops a.tmps) = true) (hrun : (execOp a.eval o).run P w = .ok .skip w') (h : wpList P ops Q rest a w') : wpList P ops Q (o :: rest) a w := by
  refine s_step hw ?_
  unfold Oper.wp
  rw [hrun]
  show wpList P ops Q rest (a.put o.dst undef) w'
  rw [hd]
  exact h
theorem yl (f : Nat) (b : Bool) (h : (ops[f]?).bind (·.dst) = some d) (hv : a.eval (.tmp d) = .bool b) : yielded ops a.tmps f = some b := by
  unfold yielded
  rw [h]
  simp only [Act.eval, Array.getD_eq_getD_getElem?] at hv
  simp only [Option.bind_some]
  cases hc : a.tmps[d]? with
  | none => rw [hc] at hv; cases hv
  | some u => rw [hc] at hv; simp only [Option.getD_some] at hv; subst hv; rfl
theorem yu (f : Nat) (h : (ops[f]?).bind (·.dst) = some d) (hv : a.eval (.tmp d) = undef) : yielded ops a.tmps f = none := by
  unfold yielded
  rw [h]
  simp only [Act.eval, Array.getD_eq_getD_getElem?] at hv
  simp only [Option.bind_some]
  cases hc : a.tmps[d]? with
  | none => rfl
  | some u => rw [hc] at hv; simp only [Option.getD_some] at hv; subst hv; rfl
theorem wgU {f : Nat → Option Bool} {j : Nat} {b' : Bool} (h : o.guard = some (j, b')) (hf : f j = none) : Region.wanted o f = false := by
  unfold Region.wanted; rw [h]; simp [hf]
theorem wgT {f : Nat → Option Bool} {j : Nat} {b b' : Bool} (h : o.guard = some (j, b')) (hf : f j = some b) (hb : (b == b') = true) : Region.wanted o f = true := by
  unfold Region.wanted; rw [h]; simp only [hf]; cases b <;> cases b' <;> first | rfl | cases hb
theorem wgF {f : Nat → Option Bool} {j : Nat} {b b' : Bool} (h : o.guard = some (j, b')) (hf : f j = some b) (hb : (b == b') = false) : Region.wanted o f = false := by
  unfold Region.wanted; rw [h]; simp only [hf]; cases b <;> cases b' <;> first | rfl | cases hb
theorem wg {f : Nat → Option Bool} {j : Nat} {b b' : Bool} (h : o.guard = some (j, b')) (hf : f j = some b) : Region.wanted o f = (b == b') := by
  unfold Region.wanted; rw [h]; simp only [hf]; cases b <;> cases b' <;> rfl
end
/-! worlds -/
theorem below_gr {B : Nat} {a b c : World} (h : Below B a b) (hB : B ≤ b.heap.size) (k : Gr b c) : Below B a c := Below.trans h (Below.mono k hB)
/-- a block's cells -/
def Bk (w : World) (b : Nat) (cs : Array Value) (t : TypeId) : Prop := w.heap[b]? = some (.cells cs t (0, 0))
theorem Bk.lt {w : World} {b : Nat} {cs : Array Value} {t : TypeId} (h : Bk w b cs t) : b < w.heap.size := (Array.getElem?_eq_some_iff.1 h).1
theorem Bk.gr {w w' : World} {b : Nat} {cs : Array Value} {t : TypeId} (h : Bk w b cs t) (g : Gr w w') : Bk w' b cs t := (Below.block g b h.lt).trans h
theorem Bk.be {w w' : World} {b B : Nat} {cs : Array Value} {t : TypeId} (h : Bk w b cs t) (g : Below B w w') (hb : b < B) : Bk w' b cs t := (Below.block g b hb).trans h
theorem Bk.drew {w : World} {b : Nat} {cs : Array Value} {t : TypeId} (h : Bk w b cs t) : Bk w.drew b cs t := h
theorem Bk.cell {w : World} {b : Nat} {cs : Array Value} {t : TypeId} (h : Bk w b cs t) (k : Nat) {v : Value} (hv : cs[k]? = some v) : w.cell? ⟨b, k, none⟩ = some v := by
  unfold World.cell?
  rw [show w.heap[(⟨b, k, none⟩ : Addr).block]? = some (.cells cs t (0, 0)) from h]
  simpa using hv
theorem Bk.frozen {w : World} {b : Nat} {cs : Array Value} {t : TypeId} (h : Bk w b cs t) (k : Nat) : w.frozen? ⟨b, k, none⟩ = false := by
  unfold World.frozen?
  rw [show w.heap[(⟨b, k, none⟩ : Addr).block]? = some (.cells cs t (0, 0)) from h]
  simp
/-- a new block -/
structure New (w w' : World) (b : Nat) (cs : Array Value) (t : TypeId) : Prop where
  gr : Gr w w'
  eq : b = w.heap.size
  bk : Bk w' b cs t
  sz : w'.heap.size = b + 1
theorem New.mk' (w : World) (cs : Array Value) (t : TypeId) : New w (w.alloc (.cells cs t)) w.heap.size cs t where
  gr := Below.alloc (Below.refl _ _) (Nat.le_refl _) _
  eq := rfl
  bk := by show (w.heap.push _)[w.heap.size]? = _; simp
  sz := World.size_alloc _ _
/-- one block written -/
structure Upd (w w' : World) (b : Nat) : Prop where
  os : w'.os = w.os
  tape : w'.tape = w.tape
  output : w'.output = w.output
  size : w'.heap.size = w.heap.size
  oth : ∀ k, k ≠ b → w'.heap[k]? = w.heap[k]?
theorem Below.upd {B b : Nat} {a w w' : World} (h : Below B a w) (hb : B ≤ b) (u : Upd w w' b) : Below B a w' :=
  ⟨u.os.trans h.os, u.tape.trans h.tape, u.output.trans h.output, by rw [u.size]; exact h.size, fun k hk => (u.oth k (by omega)).trans (h.block k hk)⟩
theorem Bk.upd {w w' : World} {b c : Nat} {cs : Array Value} {t : TypeId} (h : Bk w b cs t) (u : Upd w w' c) (hn : b ≠ c) : Bk w' b cs t := (u.oth b hn).trans h
theorem upd_row (w : World) (b : Nat) (cs : Array Value) : Upd w (w.setRow b cs) b where
  os := rfl
  tape := rfl
  output := rfl
  size := by simp [World.setRow]
  oth k hk := by simp [World.setRow, Array.getElem?_modify, Ne.symm hk]
theorem upd_cell (w : World) (b k : Nat) (v : Value) : Upd w (w.setCell ⟨b, k, none⟩ v) b where
  os := rfl
  tape := rfl
  output := rfl
  size := by simp
  oth j hj := Below.heap_setCell _ _ _ _ hj
theorem Bk.row {w : World} {b : Nat} {cs : Array Value} {t : TypeId} (h : Bk w b cs t) (cs' : Array Value) : Bk (w.setRow b cs') b cs' t := setRow_heap _ _ _ _ _ _ h
theorem Bk.set {w : World} {b : Nat} {cs : Array Value} {t : TypeId} (h : Bk w b cs t) (k : Nat) (v : Value) : Bk (w.setCell ⟨b, k, none⟩ v) b (cs.setIfInBounds k v) t := by
  unfold Bk at *
  simp [World.setCell, Array.getElem?_modify, h]
/-! a region that draws its order: every operation says what it leaves, whatever came ahead of it besides what it waits for -/
abbrev Js := List (Nat × (Value → World → Prop))
def jAt : Js → Nat → Value → World → Prop
  | [], _ => fun _ _ => True
  | (k, J) :: r, i => bif Nat.beq k i then J else jAt r i
/-- operation i waits for j -/
def waits (o : Oper) (j : Nat) : Bool := o.after.toList.any fun e => Region.binds .any e && Nat.beq e.on j
/-- the slots of the first operations -/
def fd (ops : Array Oper) (m : Nat) : List Nat := (ops.toList.take m).filterMap (·.dst)
theorem fd_mem {ops : Array Oper} {m i d : Nat} {o : Oper} (ho : ops[i]? = some o) (hi : i < m) (hd : o.dst = some d) : d ∈ fd ops m := by
  unfold fd
  rw [List.mem_filterMap]
  refine ⟨o, ?_, hd⟩
  have h1 : ops.toList[i]? = some o := by simpa using ho
  refine List.mem_of_getElem? (i := i) ?_
  rw [List.getElem?_take_of_lt hi]
  exact h1
/-- edges go back -/
def backs (ops : Array Oper) : Bool := (List.range ops.size).all fun i => match ops[i]? with | some o => o.after.toList.all fun e => !(Region.binds .any e) || Nat.blt e.on i | none => true
theorem backs_spec {ops : Array Oper} (h : backs ops = true) (i : Nat) (o : Oper) (ho : ops[i]? = some o) : ∀ e ∈ o.after, Region.binds .any e = true → e.on < i := by
  intro e he hbd
  have hlt : i < ops.size := (Array.getElem?_eq_some_iff.1 ho).1
  have := List.all_eq_true.1 h i (List.mem_range.2 hlt)
  rw [ho] at this
  have := List.all_eq_true.1 this e (by simpa using he)
  rw [hbd] at this
  simpa using this
def dstAt (ops : Array Oper) (i : Nat) : Nat := ((ops[i]?).bind (·.dst)).getD 0
/-- what an operation finds: the slots of before, and what it waited for -/
structure Pre (ops : Array Oper) (m : Nat) (js : Js) (N : Nat) (a₀ : Act) (w₀ : World) (o : Oper) (a : Act) (w : World) : Prop where
  ok : Ok N a
  gr : Gr w₀ w
  old : ∀ t, (fd ops m).all (fun d => !Nat.beq t d) = true → a.eval (.tmp t) = a₀.eval (.tmp t)
  pre : ∀ j, waits o j = true → jAt js j (a.eval (.tmp (dstAt ops j))) w
/-- an operation that makes a block -/
def isAl (o : Oper) : Bool := match o.op with | .alloc _ => true | .box _ _ => true | _ => false
/-- what is to be shown of an operation -/
def Does (P : Program) (ops : Array Oper) (Q : Exit → Act → World → Prop) (J : Value → World → Prop) (o : Oper) (a : Act) (w : World) : Prop :=
  if Region.wanted o (yielded ops a.tmps) = true then o.wp P a w (fun a' w' => ∃ v, a' = a.put o.dst v ∧ Gr w w' ∧ J v w' ∧ (isAl o = true → v = .pointer (some ⟨w.heap.size, 0, none⟩) ∧ w.heap.size < w'.heap.size)) Q else J undef w ∧ isAl o = false
theorem Does.val {P : Program} {ops : Array Oper} {Q : Exit → Act → World → Prop} {J : Value → World → Prop} {o : Oper} {a : Act} {w w' : World} {v : Value} (hw : Region.wanted o (yielded ops a.tmps) = true)
    (hrun : (execOp a.eval o).run P w = .ok (.value v) w') (g : Gr w w') (h : J v w') (hal : isAl o = false) : Does P ops Q J o a w := by
  unfold Does
  rw [if_pos hw]
  unfold Oper.wp
  rw [hrun]
  exact ⟨v, rfl, g, h, fun e => by rw [hal] at e; cases e⟩
theorem Does.alloc {P : Program} {ops : Array Oper} {Q : Exit → Act → World → Prop} {J : Value → World → Prop} {o : Oper} {a : Act} {w : World} {x : Obj} (hw : Region.wanted o (yielded ops a.tmps) = true)
    (hrun : (execOp a.eval o).run P w = .ok (.value (.pointer (some ⟨w.heap.size, 0, none⟩))) (w.alloc x)) (h : J (.pointer (some ⟨w.heap.size, 0, none⟩)) (w.alloc x)) : Does P ops Q J o a w := by
  unfold Does
  rw [if_pos hw]
  unfold Oper.wp
  rw [hrun]
  exact ⟨_, rfl, (Gr.refl w).alloc x, h, fun _ => ⟨rfl, by rw [World.size_alloc]; omega⟩⟩
theorem Does.call {P : Program} {ops : Array Oper} {Q : Exit → Act → World → Prop} {J : Value → World → Prop} {o : Oper} {a : Act} {w : World} {f : FuncId} {args : Array Value} {R : Ending → World → Prop} (hw : Region.wanted o (yielded ops a.tmps) = true)
    (hrun : (execOp a.eval o).run P w = .ok (.enter f args) w) (hc : Calls P f args w R) (h : ∀ e w', R e w' → ∃ v, e = .returned v ∧ Gr w w' ∧ J v w') (hal : isAl o = false) : Does P ops Q J o a w := by
  unfold Does
  rw [if_pos hw]
  unfold Oper.wp
  rw [hrun, Oper.upon_enter]
  refine hc.mono ?_
  intro e w' hR
  obtain ⟨v, rfl, g, hj⟩ := h e w' hR
  exact ⟨v, rfl, g, hj, fun e => by rw [hal] at e; cases e⟩
theorem Does.not {P : Program} {ops : Array Oper} {Q : Exit → Act → World → Prop} {J : Value → World → Prop} {o : Oper} {a : Act} {w : World} (hw : Region.wanted o (yielded ops a.tmps) = false) (h : J undef w) (hal : isAl o = false) : Does P ops Q J o a w := by
  unfold Does
  rw [if_neg (by rw [hw]; simp)]
  exact ⟨h, hal⟩
/-- the operations up to a number do what they say -/
structure Reg (P : Program) (ops : Array Oper) (Q : Exit → Act → World → Prop) (N : Nat) (a₀ : Act) (w₀ : World) (m n : Nat) (js : Js) : Prop where
  back : backs ops = true
  top : ∀ i, n ≤ i → jAt js i = fun _ _ => True
  mono : ∀ i v w w', Gr w w' → jAt js i v w → jAt js i v w'
  does : ∀ i o, i < n → ops[i]? = some o → ∀ a w, Pre ops m js N a₀ w₀ o a w → Does P ops Q (jAt js i) o a w
section
variable {P : Program} {ops : Array Oper} {Q : Exit → Act → World → Prop} {N : Nat} {a₀ : Act} {w₀ : World}
theorem jAt_ne {js : Js} {J : Value → World → Prop} {n i : Nat} (h : n ≠ i) : jAt ((n, J) :: js) i = jAt js i := by
  have : Nat.beq n i = false := by
    cases e : Nat.beq n i
    · rfl
    · exact absurd (Nat.eq_of_beq_eq_true e) h
  simp [jAt, this]
theorem jAt_eq {js : Js} {J : Value → World → Prop} {n : Nat} : jAt ((n, J) :: js) n = J := by simp [jAt]
theorem Reg.nil {m : Nat} (hb : backs ops = true) : Reg P ops Q N a₀ w₀ m 0 [] := ⟨hb, fun _ _ => rfl, fun i v w w' _ _ => trivial, fun i o h => by cases h⟩
/-- the next operation -/
theorem Reg.snoc {m n n' : Nat} {js : Js} (R : Reg P ops Q N a₀ w₀ m n js) (hn : n + 1 = n') (J : Value → World → Prop) {o : Oper} (ho : ops[n]? = some o) (hm : ∀ v w w', Gr w w' → J v w → J v w')
    (h : ∀ a w, Pre ops m js N a₀ w₀ o a w → Does P ops Q J o a w) : Reg P ops Q N a₀ w₀ m n' ((n, J) :: js) where
  back := R.back
  top i hi := by rw [jAt_ne (by omega)]; exact R.top i (by omega)
  mono i v w w' g hj := by
    by_cases q : n = i
    · subst q; rw [jAt_eq] at *; exact hm v w w' g hj
    · rw [jAt_ne q] at *; exact R.mono i v w w' g hj
  does i o' hi ho' a w p := by
    have p' : Pre ops m js N a₀ w₀ o' a w := by
      refine ⟨p.ok, p.gr, p.old, fun j hj => ?_⟩
      have h1 := p.pre j hj
      have hlt : j < n := by
        unfold waits at hj
        obtain ⟨e, he, hh⟩ := List.any_eq_true.1 hj
        have h2 := backs_spec R.back i o' ho' e (by simpa using he) (Bool.and_eq_true_iff.1 hh).1
        simp only [Bool.and_eq_true] at hh
        have h3 := Nat.eq_of_beq_eq_true hh.2
        omega
      rwa [jAt_ne (by omega)] at h1
    by_cases q : n = i
    · subst q
      rw [jAt_eq]
      obtain rfl : o = o' := Option.some.inj (ho.symm.trans ho')
      exact h a w p'
    · rw [jAt_ne q]
      exact R.does i o' (by omega) ho' a w p'
/-- reached by waiting -/
def reach (ops : Array Oper) : Nat → Nat → Nat → Bool
  | 0, _, _ => false
  | n + 1, i, j => match ops[i]? with
    | none => false
    | some o => o.after.toList.any fun e => Region.binds .any e && (Nat.beq e.on j || reach ops n e.on j)
/-- the shape of a region: the first m operations leave a value each, in slots of their own; edges go back; the others wait for all of them -/
def shape (ops : Array Oper) (m : Nat) : Bool :=
  Nat.ble m ops.size &&
  ((List.range m).all fun i => ((ops[i]?).bind (·.dst)).isSome && ((List.range i).all fun j => !Nat.beq (dstAt ops j) (dstAt ops i))) &&
  ((List.range ops.size).all fun i => Nat.blt i m || ((List.range m).all fun j => reach ops ops.size i j))
/-- operation i makes a block -/
def alAt (ops : Array Oper) (i : Nat) : Bool := match ops[i]? with | some o => isAl o | none => false
def firsts (n m : Nat) : Array Bool := ((List.range n).map fun i => Nat.blt i m).toArray
/-- behind the first operations -/
structure Post (ops : Array Oper) (m : Nat) (js : Js) (N : Nat) (a₀ : Act) (w₀ : World) (a : Act) (w : World) : Prop where
  ok : Ok N a
  gr : Gr w₀ w
  old : ∀ t, (fd ops m).all (fun d => !Nat.beq t d) = true → a.eval (.tmp t) = a₀.eval (.tmp t)
  js : ∀ j, Nat.blt j m = true → jAt js j (a.eval (.tmp (dstAt ops j))) w
  dis : ∀ i j b b', Nat.blt i m = true → Nat.blt j m = true → Nat.beq i j = false → alAt ops i = true → alAt ops j = true → a.eval (.tmp (dstAt ops i)) = .pointer (some ⟨b, 0, none⟩) → a.eval (.tmp (dstAt ops j)) = .pointer (some ⟨b', 0, none⟩) → b ≠ b'
def Closed (ops : Array Oper) (L : Array Bool) : Prop := ∀ i o, L.getD i false = true → ops[i]? = some o → ∀ e ∈ o.after, Region.binds .any e = true → L.getD e.on false = true
theorem reach_listed {L : Array Bool} (hc : Closed ops L) : ∀ n i j, (∀ o, ops[i]? = some o → ∀ e ∈ o.after, Region.binds .any e = true → L.getD e.on false = true) → reach ops n i j = true → L.getD j false = true := by
  intro n
  induction n with
  | zero => intro i j _ h; cases h
  | succ n ih =>
    intro i j hi h
    unfold reach at h
    cases ho : ops[i]? with
    | none => rw [ho] at h; cases h
    | some o =>
      rw [ho] at h
      obtain ⟨e, he, hh⟩ := List.any_eq_true.1 h
      have he : e ∈ o.after := by simpa using he
      simp only [Bool.and_eq_true, Bool.or_eq_true] at hh
      have h1 := hi o ho e he hh.1
      rcases hh.2 with q | q
      · have q' := Nat.eq_of_beq_eq_true q; rw [← q']; exact h1
      · exact ih e.on j (fun o' ho' e' he' hb' => hc e.on o' h1 ho' e' he' hb') q
theorem getD_lt {L : Array Bool} {i : Nat} (h : i < L.size) (b c : Bool) : L.getD i b = L.getD i c := by
  simp [Array.getD, h]
/-- the state on the way -/
structure Way (ops : Array Oper) (m : Nat) (js : Js) (N : Nat) (a₀ : Act) (w₀ : World) (U : List Nat) (L : Array Bool) (a : Act) (w : World) : Prop where
  ok : Ok N a
  gr : Gr w₀ w
  old : ∀ t, (fd ops m).all (fun d => !Nat.beq t d) = true → a.eval (.tmp t) = a₀.eval (.tmp t)
  size : L.size = ops.size
  closed : Closed ops L
  nodup : U.Nodup
  un : ∀ j, j < m → (L.getD j false = false ↔ j ∈ U)
  lt : ∀ j ∈ U, j < m
  tail : ∀ j, m ≤ j → L.getD j false = false
  js : ∀ j, j < m → L.getD j false = true → jAt js j (a.eval (.tmp (dstAt ops j))) w
  dis : ∀ i j, i < m → j < m → i ≠ j → L.getD i false = true → L.getD j false = true → alAt ops i = true → alAt ops j = true → ∃ b b', a.eval (.tmp (dstAt ops i)) = .pointer (some ⟨b, 0, none⟩) ∧ a.eval (.tmp (dstAt ops j)) = .pointer (some ⟨b', 0, none⟩) ∧ b ≠ b'
  low : ∀ i, i < m → L.getD i false = true → alAt ops i = true → ∃ b, a.eval (.tmp (dstAt ops i)) = .pointer (some ⟨b, 0, none⟩) ∧ b < w.heap.size
theorem shape_spec {m : Nat} (h : shape ops m = true) : m ≤ ops.size ∧ (∀ i, i < m → ∃ o, ops[i]? = some o ∧ o.dst = some (dstAt ops i)) ∧
    (∀ i j, i < m → j < m → i ≠ j → dstAt ops j ≠ dstAt ops i) ∧ (∀ i, i < ops.size → m ≤ i → ∀ j, j < m → reach ops ops.size i j = true) := by
  unfold shape at h
  simp only [Bool.and_eq_true] at h
  obtain ⟨⟨h1, h3⟩, h4⟩ := h
  have h1 : m ≤ ops.size := Nat.le_of_ble_eq_true h1
  have key : ∀ i, i < m → ((ops[i]?).bind (·.dst)).isSome = true ∧ ∀ j, j < i → dstAt ops j ≠ dstAt ops i := by
    intro i hi
    have := List.all_eq_true.1 h3 i (List.mem_range.2 hi)
    simp only [Bool.and_eq_true] at this
    refine ⟨this.1, fun j hj => ?_⟩
    have := List.all_eq_true.1 this.2 j (List.mem_range.2 hj)
    rw [Bool.not_eq_true'] at this
    exact Nat.ne_of_beq_eq_false this
  refine ⟨h1, ?_, ?_, ?_⟩
  · intro i hi
    have h := (key i hi).1
    cases ho : ops[i]? with
    | none => rw [ho] at h; cases h
    | some o =>
      refine ⟨o, rfl, ?_⟩
      rw [ho] at h
      simp only [Option.bind_some] at h
      obtain ⟨d, hd⟩ := Option.isSome_iff_exists.1 h
      unfold dstAt
      rw [ho]
      simp [hd]
  · intro i j hi hj hne
    rcases Nat.lt_trichotomy i j with q | q | q
    · exact fun e => (key j hj).2 i q e.symm
    · exact absurd q hne
    · exact (key i hi).2 j q
  · intro i hi hm j hj
    have := List.all_eq_true.1 h4 i (List.mem_range.2 hi)
    rw [Bool.or_eq_true] at this
    rcases this with q | q
    · have : i < m := by simpa using q
      omega
    · exact List.all_eq_true.1 q j (List.mem_range.2 hj)
theorem getD_set {L : Array Bool} {i j : Nat} (hi : i < L.size) : (L.setIfInBounds i true).getD j false = if i = j then true else L.getD j false := by
  by_cases e : i = j
  · subst e; simp [Array.getD, hi]
  · rw [if_neg e]
    unfold Array.getD
    by_cases hj : j < L.size
    · simp [hj, Array.getElem_setIfInBounds, e]
    · simp [hj]
theorem replicate_getD (n j : Nat) : (Array.replicate n false).getD j false = false := by
  unfold Array.getD
  split <;> simp
theorem Reg.way {m : Nat} {js : Js} (R : Reg P ops Q N a₀ w₀ m m js) (hs : shape ops m = true) (hN : ((List.range m).all fun i => Nat.blt (dstAt ops i) N) = true)
    (hend : ∀ a w, Post ops m js N a₀ w₀ a w → wpAny P .any ops Q (ops.size - m) (firsts ops.size m) a w) :
    ∀ (U : List Nat) (L : Array Bool) (a : Act) (w : World), Way ops m js N a₀ w₀ U L a w → wpAny P .any ops Q (U.length + (ops.size - m)) L a w := by
  obtain ⟨hm, hd, hdd, ht⟩ := shape_spec hs
  have hb := backs_spec R.back
  intro U
  generalize hn : U.length = n
  induction n generalizing U with
  | zero =>
    intro L a w W
    have hU : U = [] := List.eq_nil_of_length_eq_zero hn
    subst hU
    have hall : ∀ j, j < m → L.getD j false = true := fun j hj => by
      have := (W.un j hj)
      cases e : L.getD j false
      · rw [e] at this; exact absurd (this.1 rfl) (by simp)
      · rfl
    have hL : L = firsts ops.size m := by
      apply Array.ext
      · simp [firsts, W.size]
      · intro i h1 h2
        have e1 : L[i] = L.getD i false := by simp [Array.getD, h1]
        rw [e1]
        simp only [firsts, List.getElem_toArray, List.getElem_map, List.getElem_range]
        by_cases q : i < m
        · rw [hall i q]; simp [q]
        · rw [W.tail i (by omega)]
          cases e : Nat.blt i m
          · rfl
          · exact absurd (by simpa using e) q
    subst hL
    rw [Nat.zero_add]
    exact hend a w ⟨W.ok, W.gr, W.old, fun j hj => by
      have hj : j < m := by simpa using hj
      exact W.js j hj (hall j hj), fun i j b b' hi hj hij h1 h2 e1 e2 => by
      have hi : i < m := by simpa using hi
      have hj : j < m := by simpa using hj
      obtain ⟨c, c', q1, q2, q3⟩ := W.dis i j hi hj (Nat.ne_of_beq_eq_false hij) (hall i hi) (hall j hj) h1 h2
      rw [e1] at q1
      rw [e2] at q2
      cases q1
      cases q2
      exact q3⟩
  | succ n ih =>
    intro L a w W
    rw [Nat.succ_add]
    -- the least one that is not listed may come up
    have hne : Region.ready .any ops L ≠ [] := by
      obtain ⟨u, hu⟩ : ∃ u, u ∈ U := List.exists_mem_of_length_pos (by omega)
      have hlu := W.lt u hu
      have hex : ∃ k, k < m ∧ L.getD k false = false := ⟨u, hlu, (W.un u hlu).2 hu⟩
      obtain ⟨k, ⟨hk1, hk2⟩, hk3⟩ := exists_least hex
      have hki : k < L.size := by rw [W.size]; omega
      obtain ⟨o, ho, -⟩ := hd k hk1
      have : k ∈ Region.ready .any ops L := by
        rw [mem_ready]
        refine ⟨by rw [getD_lt hki true false]; exact hk2, o, ho, fun e he hbd => ?_⟩
        have hlt := hb k o ho e he hbd
        cases q : L.getD e.on false
        · have := hk3 e.on ⟨by omega, q⟩; omega
        · rfl
      intro e
      rw [e] at this
      cases this
    refine ⟨fun h => absurd h hne, fun i hi => ?_⟩
    obtain ⟨hil, o, ho, hall⟩ := mem_ready.1 hi
    have his : i < ops.size := (Array.getElem?_eq_some_iff.1 ho).1
    have hiL : i < L.size := by rw [W.size]; exact his
    have hil' : L.getD i false = false := by rw [getD_lt hiL false true]; exact hil
    have him : i < m := by
      rcases Nat.lt_or_ge i m with q | q
      · exact q
      · exfalso
        obtain ⟨u, hu⟩ : ∃ u, u ∈ U := List.exists_mem_of_length_pos (by omega)
        have hlu := W.lt u hu
        have h1 := reach_listed W.closed ops.size i u (fun o' ho' e he hbd => by
          obtain rfl : o = o' := Option.some.inj (ho.symm.trans ho')
          exact hall e he hbd) (ht i his q u hlu)
        rw [(W.un u hlu).2 hu] at h1
        cases h1
    have hiU : i ∈ U := (W.un i him).1 hil'
    obtain ⟨o', ho', hdst⟩ := hd i him
    obtain rfl : o = o' := Option.some.inj (ho.symm.trans ho')
    have hdoes := R.does i o him ho a w ⟨W.ok, W.gr, W.old, fun j hj => by
        unfold waits at hj
        obtain ⟨e, he, hh⟩ := List.any_eq_true.1 hj
        have he : e ∈ o.after := by simpa using he
        simp only [Bool.and_eq_true] at hh
        have h2 := Nat.eq_of_beq_eq_true hh.2
        have h3 := hall e he hh.1
        rw [h2] at h3
        have hji : j < i := by have := hb i o ho e he hh.1; omega
        exact W.js j (by omega) h3⟩
    have hdN : Nat.blt (dstAt ops i) N = true := List.all_eq_true.1 hN i (List.mem_range.2 him)
    have next : ∀ v w', Gr w w' → jAt js i v w' → (isAl o = true → v = .pointer (some ⟨w.heap.size, 0, none⟩) ∧ w.heap.size < w'.heap.size) → wpAny P .any ops Q (n + (ops.size - m)) (L.setIfInBounds i true) (a.put o.dst v) w' := by
      intro v w' g hJ hA
      rw [hdst]
      have nx := Nx.put W.ok hdN v
      refine ih (U.erase i) (by rw [List.length_erase_of_mem hiU, hn]; rfl) (L.setIfInBounds i true) _ w' ?_
      refine ⟨nx.ok, W.gr.trans g, fun t ht => ?_, by simp [W.size], ?_, W.nodup.erase _, ?_, fun j hj => W.lt j (List.mem_of_mem_erase hj), ?_, ?_, ?_, ?_⟩
      · have := List.all_eq_true.1 ht _ (fd_mem ho him hdst)
        rw [Bool.not_eq_true'] at this
        exact (nx.oth t this).trans (W.old t ht)
      · intro k ok hk hok e he hbd
        rw [getD_set hiL] at hk ⊢
        split
        · rfl
        · by_cases q : i = k
          · subst q
            obtain rfl : o = ok := Option.some.inj (ho.symm.trans hok)
            exact hall e he hbd
          · rw [if_neg q] at hk
            exact W.closed k ok hk hok e he hbd
      · intro j hj
        rw [getD_set hiL, W.nodup.mem_erase_iff]
        by_cases q : i = j
        · subst q; simp
        · rw [if_neg q, W.un j hj]
          exact ⟨fun h => ⟨fun e => q e.symm, h⟩, fun h => h.2⟩
      · intro j hj
        rw [getD_set hiL, if_neg (by omega)]
        exact W.tail j hj
      · intro j hj hl
        by_cases q : i = j
        · subst q
          rw [nx.at_]
          exact hJ
        · rw [getD_set hiL, if_neg q] at hl
          have h1 := W.js j hj hl
          rw [nx.oth _ (by
            have := hdd i j him hj q
            cases e : Nat.beq (dstAt ops j) (dstAt ops i)
            · rfl
            · exact absurd (Nat.eq_of_beq_eq_true e) this)]
          exact R.mono j _ _ _ g h1
      · intro j k hj hk hjk hlj hlk haj hak
        have other : ∀ j, j < m → i ≠ j → (L.setIfInBounds i true).getD j false = true → L.getD j false = true ∧ (a.put (some (dstAt ops i)) v).eval (.tmp (dstAt ops j)) = a.eval (.tmp (dstAt ops j)) := by
          intro j hj q hl
          rw [getD_set hiL, if_neg q] at hl
          refine ⟨hl, nx.oth _ ?_⟩
          have := hdd i j him hj q
          cases e : Nat.beq (dstAt ops j) (dstAt ops i)
          · rfl
          · exact absurd (Nat.eq_of_beq_eq_true e) this
        have hio : ∀ q : alAt ops i = true, isAl o = true := fun q => by unfold alAt at q; rw [ho] at q; exact q
        by_cases q1 : i = j
        · subst q1
          obtain ⟨hl, he⟩ := other k hk hjk hlk
          obtain ⟨b, h1, h2⟩ := W.low k hk hl hak
          obtain ⟨h3, h4⟩ := hA (hio haj)
          exact ⟨_, b, by rw [nx.at_, h3], by rw [he]; exact h1, by omega⟩
        · by_cases q2 : i = k
          · subst q2
            obtain ⟨hl, he⟩ := other j hj q1 hlj
            obtain ⟨b, h1, h2⟩ := W.low j hj hl haj
            obtain ⟨h3, h4⟩ := hA (hio hak)
            exact ⟨b, _, by rw [he]; exact h1, by rw [nx.at_, h3], by omega⟩
          · obtain ⟨hl, he⟩ := other j hj q1 hlj
            obtain ⟨hl', he'⟩ := other k hk q2 hlk
            obtain ⟨b, b', h1, h2, h3⟩ := W.dis j k hj hk hjk hl hl' haj hak
            exact ⟨b, b', by rw [he]; exact h1, by rw [he']; exact h2, h3⟩
      · intro j hj hl haj
        by_cases q : i = j
        · subst q
          have hio : isAl o = true := by unfold alAt at haj; rw [ho] at haj; exact haj
          obtain ⟨h3, h4⟩ := hA hio
          exact ⟨_, by rw [nx.at_, h3], h4⟩
        · rw [getD_set hiL, if_neg q] at hl
          obtain ⟨b, h1, h2⟩ := W.low j hj hl haj
          refine ⟨b, ?_, Nat.lt_of_lt_of_le h2 g.le⟩
          rw [nx.oth _ (by
            have := hdd i j him hj q
            cases e : Nat.beq (dstAt ops j) (dstAt ops i)
            · rfl
            · exact absurd (Nat.eq_of_beq_eq_true e) this)]
          exact h1
    unfold wpOp
    rw [ho]
    unfold Does at hdoes
    by_cases hw : Region.wanted o (yielded ops a.tmps) = true
    · rw [if_pos hw] at hdoes
      simp only [hw, if_true]
      left
      refine Oper.wp_mono ?_ hdoes
      rintro a' w' ⟨v, rfl, g, hj, hA⟩
      exact next v w' g hj hA
    · rw [if_neg hw] at hdoes
      simp only [hw, if_false, Bool.false_eq_true]
      exact next undef w (Gr.refl w) hdoes.1 (fun e => by rw [hdoes.2] at e; cases e)
/-- a region that draws its order -/
theorem Reg.run {id m : Nat} {js : Js} {a : Act} {w : World} (R : Reg P ops Q N a w.drew m m js) {k : Nat} {L : Array Bool} (hk : ops.size - m = k) (hL : firsts ops.size m = L) (hf : P.follows .mixedOrders = true) (ok : Ok N a) (hs : shape ops m = true) (hN : ((List.range m).all fun i => Nat.blt (dstAt ops i) N) = true)
    (hend : ∀ a' w', Post ops m js N a w.drew a' w' → wpAny P .any ops Q k L a' w') : (Code.region id ops true).wp P Q a w := by
  subst hk hL
  refine wp_region_any hf ?_
  have hm := (shape_spec hs).1
  have h := R.way hs hN hend (List.range m) (Array.replicate ops.size false) a w.drew
    { ok := ok, gr := Gr.refl _, old := fun _ _ => rfl, size := by simp
      closed := fun i o h => by rw [replicate_getD] at h; cases h
      nodup := List.nodup_range
      un := fun j hj => by rw [replicate_getD]; simp [hj]
      lt := fun j hj => List.mem_range.1 hj
      tail := fun j _ => replicate_getD _ _
      js := fun j _ h => by rw [replicate_getD] at h; cases h
      dis := fun i j _ _ _ h => by rw [replicate_getD] at h; cases h
      low := fun i _ h => by rw [replicate_getD] at h; cases h }
  rw [List.length_range, Nat.add_sub_cancel' hm] at h
  exact h
theorem reg_start {id m : Nat} {a : Act} {w : World} (hb : backs ops = true) (h : Reg P ops Q N a w.drew m 0 [] → (Code.region id ops true).wp P Q a w) : (Code.region id ops true).wp P Q a w := h (Reg.nil hb)
theorem gr_drew {w w' : World} (h : Gr w.drew w') : Gr w w' := ⟨h.os, h.tape, h.output, h.size, h.block⟩
/-- the operations that wait for all others -/
theorem t_one {i : Nat} {o : Oper} {fuel : Nat} {L : Array Bool} {a : Act} {w : World} (hr : Region.ready .any ops L = [i]) (ho : ops[i]? = some o) (hw : Region.wanted o (yielded ops a.tmps) = true)
    (h : o.wp P a w (wpAny P .any ops Q fuel (L.setIfInBounds i true)) Q) : wpAny P .any ops Q (fuel + 1) L a w := by
  refine wpAny_all hr (by simp) fun j hj => ?_
  obtain rfl : j = i := by simpa using hj
  unfold wpOp
  rw [ho]
  simp only [hw, if_true]
  exact .inl h
theorem t_val {i : Nat} {o : Oper} {fuel : Nat} {L : Array Bool} {a : Act} {w w' : World} {d : Nat} {v : Value} (hr : Region.ready .any ops L = [i]) (ho : ops[i]? = some o) (ok : Ok N a) (hd : o.dst = some d) (hw : Region.wanted o (yielded ops a.tmps) = true) (hN : Nat.blt d N = true)
    (hrun : (execOp a.eval o).run P w = .ok (.value v) w') (h : ∀ a', Nx N a a' d v → wpAny P .any ops Q fuel (L.setIfInBounds i true) a' w') : wpAny P .any ops Q (fuel + 1) L a w := by
  refine t_one hr ho hw ?_
  unfold Oper.wp
  rw [hrun]
  show wpAny P .any ops Q fuel (L.setIfInBounds i true) (a.put o.dst v) w'
  rw [hd]
  exact h _ (Nx.put ok hN v)
theorem t_st {i : Nat} {o : Oper} {fuel : Nat} {L : Array Bool} {a : Act} {w w' : World} (hr : Region.ready .any ops L = [i]) (ho : ops[i]? = some o) (hd : o.dst = none) (hw : Region.wanted o (yielded ops a.tmps) = true)
    (hrun : (execOp a.eval o).run P w = .ok .skip w') (h : wpAny P .any ops Q fuel (L.setIfInBounds i true) a w') : wpAny P .any ops Q (fuel + 1) L a w := by
  refine t_one hr ho hw ?_
  unfold Oper.wp
  rw [hrun]
  show wpAny P .any ops Q fuel (L.setIfInBounds i true) (a.put o.dst undef) w'
  rw [hd]
  exact h
theorem t_stC {i : Nat} {o : Oper} {fuel : Nat} {L : Array Bool} {a : Act} {w : World} {b k : Nat} {v : Value} {cs : Array Value} {t : TypeId} (hr : Region.ready .any ops L = [i]) (ho : ops[i]? = some o) (hd : o.dst = none) (hw : Region.wanted o (yielded ops a.tmps) = true)
    (hrun : (execOp a.eval o).run P w = .ok .skip (w.setCell ⟨b, k, none⟩ v)) (hb : Bk w b cs t) (h : ∀ w', Upd w w' b → Bk w' b (cs.setIfInBounds k v) t → wpAny P .any ops Q fuel (L.setIfInBounds i true) a w') : wpAny P .any ops Q (fuel + 1) L a w :=
  t_st hr ho hd hw hrun (h _ (upd_cell _ _ _ _) (hb.set _ _))
theorem t_stR {i : Nat} {o : Oper} {fuel : Nat} {L : Array Bool} {a : Act} {w : World} {b : Nat} {cs cs' : Array Value} {t : TypeId} (hr : Region.ready .any ops L = [i]) (ho : ops[i]? = some o) (hd : o.dst = none) (hw : Region.wanted o (yielded ops a.tmps) = true)
    (hrun : (execOp a.eval o).run P w = .ok .skip (w.setRow b cs')) (hb : Bk w b cs t) (h : ∀ w', Upd w w' b → Bk w' b cs' t → wpAny P .any ops Q fuel (L.setIfInBounds i true) a w') : wpAny P .any ops Q (fuel + 1) L a w :=
  t_st hr ho hd hw hrun (h _ (upd_row _ _ _) (hb.row _))
end
section
variable {P : Program} {ops : Array Oper} {Q : Exit → Act → World → Prop} {rest : List Oper} {o : Oper} {a : Act} {w : World} {d N : Nat}
/-- a new block, in a list -/
theorem sal {cs : Array Value} {t : TypeId} (ok : Ok N a) (hd : o.dst = some d) (hw : Region.wanted o (yielded ops a.tmps) = true) (hN : Nat.blt d N = true) (hrun : (execOp a.eval o).run P w = .ok (.value (.pointer (some ⟨w.heap.size, 0, none⟩))) (w.alloc (.cells cs t)))
    (h : ∀ a' w' b, New w w' b cs t → Nx N a a' d (.pointer (some ⟨b, 0, none⟩)) → wpList P ops Q rest a' w') : wpList P ops Q (o :: rest) a w :=
  sv ok hd hw hN hrun fun a' n => h a' _ _ (New.mk' w cs t) n
theorem sals {cs : Array Value} {t : TypeId} {n c : Nat} (ok : Ok N a) (hd : o.dst = some d) (hw : Region.wanted o (yielded ops a.tmps) = true) (hN : Nat.blt d N = true) (hrun : (execOp a.eval o).run P w = .ok (.value (.slice (some ⟨w.heap.size, 0, none⟩) n c)) (w.alloc (.cells cs t)))
    (h : ∀ a' w' b, New w w' b cs t → Nx N a a' d (.slice (some ⟨b, 0, none⟩) n c) → wpList P ops Q rest a' w') : wpList P ops Q (o :: rest) a w :=
  sv ok hd hw hN hrun fun a' n => h a' _ _ (New.mk' w cs t) n
theorem info3_of {P : Program} {e : TypeId} {z : Value} {size : Nat} (h : (P.info? e).map (fun i => (i.zero, i.size)) = some (some z, size)) : ∃ i, P.info? e = some i ∧ i.zero = some z ∧ i.size = size := by
  cases hq : P.info? e with
  | none => simp [hq] at h
  | some i => simp [hq] at h; exact ⟨i, rfl, h.1, h.2⟩
theorem ssC {b k : Nat} {v : Value} {cs : Array Value} {t : TypeId} (hd : o.dst = none) (hw : Region.wanted o (yielded ops a.tmps) = true) (hrun : (execOp a.eval o).run P w = .ok .skip (w.setCell ⟨b, k, none⟩ v)) (hb : Bk w b cs t)
    (h : ∀ w', Upd w w' b → Bk w' b (cs.setIfInBounds k v) t → wpList P ops Q rest a w') : wpList P ops Q (o :: rest) a w := ss hd hw hrun (h _ (upd_cell _ _ _ _) (hb.set _ _))
theorem ssR {b : Nat} {cs cs' : Array Value} {t : TypeId} (hd : o.dst = none) (hw : Region.wanted o (yielded ops a.tmps) = true) (hrun : (execOp a.eval o).run P w = .ok .skip (w.setRow b cs')) (hb : Bk w b cs t)
    (h : ∀ w', Upd w w' b → Bk w' b cs' t → wpList P ops Q rest a w') : wpList P ops Q (o :: rest) a w := ss hd hw hrun (h _ (upd_row _ _ _) (hb.row _))
end
/-! a region that draws its order, of copies, loads and stores alone -/
/-- nothing but some blocks was written -/
def Sx (bs : List Nat) (w x : World) : Prop := ∀ k, k ∉ bs → x.heap[k]? = w.heap[k]?
theorem Sx.drew (bs : List Nat) (w : World) : Sx bs w w.drew := fun _ _ => rfl
theorem Sx.bk {bs : List Nat} {w x : World} {b : Nat} {cs : Array Value} {t : TypeId} (h : Sx bs w x) (hb : Bk w b cs t) (hn : b ∉ bs) : Bk x b cs t := (h b hn).trans hb
theorem Sx.upd {bs : List Nat} {w x x' : World} {b : Nat} (h : Sx bs w x) (u : Upd x x' b) (hb : b ∈ bs) : Sx bs w x' := fun k hk => (u.oth k (fun e => hk (e ▸ hb))).trans (h k hk)
section
variable {P : Program} {ops : Array Oper} {Q : Exit → Act → World → Prop} {N : Nat} {S : World → Prop}
theorem h_start {id : Nat} {a : Act} {w : World} (bs : List Nat) (n : Nat) (L : Array Bool) (hf : P.follows .mixedOrders = true) (hn : ops.size = n) (hL : Array.replicate ops.size false = L)
    (h : wpAnyH P .any ops Q (Sx bs w) n L a w.drew) : (Code.region id ops true).wp P Q a w := by
  subst hn hL
  exact wp_region_held hf h
theorem h_take {i d : Nat} {oi : Oper} {v : Value} {fuel : Nat} {L : Array Bool} {a : Act} {w : World} (ok : Ok N a) (hi : ops[i]? = some oi) (hd : oi.dst = some d) (hN : Nat.blt d N = true) (hs : Region.noSelect ops = true) (hf : Region.free .any ops L i = true) (hr : (Region.ready .any ops L).contains i = true)
    (hQ : ∀ c a d v w, Q (.panic c) (Act.put a (some d) v) w → Q (.panic c) a w) (hw : Region.wanted oi (yielded ops a.tmps) = true) (hrun : ∀ x, S x → (execOp a.eval oi).run P x = .ok (.value v) x) (hS : S w)
    (h : ∀ a', Nx N a a' d v → wpAnyH P .any ops Q S fuel (L.setIfInBounds i true) a' w) : wpAnyH P .any ops Q S (fuel + 1) L a w :=
  wpAnyH_take hi hs hf hr (fun c a w h => hQ c a d v w (hd ▸ h)) (.inl ⟨hw, hrun⟩) hS (hd ▸ h _ (Nx.put ok hN v))
theorem h_not {i d : Nat} {oi : Oper} {fuel : Nat} {L : Array Bool} {a : Act} {w : World} (ok : Ok N a) (hi : ops[i]? = some oi) (hd : oi.dst = some d) (hN : Nat.blt d N = true) (hs : Region.noSelect ops = true) (hf : Region.free .any ops L i = true) (hr : (Region.ready .any ops L).contains i = true)
    (hQ : ∀ c a d v w, Q (.panic c) (Act.put a (some d) v) w → Q (.panic c) a w) (hw : Region.wanted oi (yielded ops a.tmps) = false) (hS : S w)
    (h : ∀ a', Nx N a a' d undef → wpAnyH P .any ops Q S fuel (L.setIfInBounds i true) a' w) : wpAnyH P .any ops Q S (fuel + 1) L a w :=
  wpAnyH_take hi hs hf hr (fun c a w h => hQ c a d undef w (hd ▸ h)) (.inr ⟨hw, rfl⟩) hS (hd ▸ h _ (Nx.put ok hN _))
theorem h_st {i : Nat} {o : Oper} {fuel : Nat} {L : Array Bool} {a : Act} {w w' : World} (hr : Region.ready .any ops L = [i]) (ho : ops[i]? = some o) (hd : o.dst = none) (hw : Region.wanted o (yielded ops a.tmps) = true)
    (hrun : (execOp a.eval o).run P w = .ok .skip w') (hS : S w') (h : wpAnyH P .any ops Q S fuel (L.setIfInBounds i true) a w') : wpAnyH P .any ops Q S (fuel + 1) L a w := by
  refine wpAnyH_all hr (by simp) fun j hj => ?_
  obtain rfl : j = i := by simpa using hj
  unfold wpOp
  rw [ho]
  simp only [hw, if_true]
  left
  unfold Oper.wp
  rw [hrun]
  show S w' ∧ wpAnyH P .any ops Q S fuel (L.setIfInBounds j true) (a.put o.dst undef) w'
  rw [hd]
  exact ⟨hS, h⟩
theorem h_stC {bs : List Nat} {w₀ : World} {i : Nat} {o : Oper} {fuel : Nat} {L : Array Bool} {a : Act} {w : World} {b k : Nat} {v : Value} {cs : Array Value} {t : TypeId} (hr : Region.ready .any ops L = [i]) (ho : ops[i]? = some o) (hd : o.dst = none) (hw : Region.wanted o (yielded ops a.tmps) = true)
    (hrun : (execOp a.eval o).run P w = .ok .skip (w.setCell ⟨b, k, none⟩ v)) (hb : Bk w b cs t) (hS : Sx bs w₀ w) (hm : b ∈ bs) (h : ∀ w', Upd w w' b → Bk w' b (cs.setIfInBounds k v) t → Sx bs w₀ w' → wpAnyH P .any ops Q (Sx bs w₀) fuel (L.setIfInBounds i true) a w') : wpAnyH P .any ops Q (Sx bs w₀) (fuel + 1) L a w :=
  h_st hr ho hd hw hrun (hS.upd (upd_cell _ _ _ _) hm) (h _ (upd_cell _ _ _ _) (hb.set _ _) (hS.upd (upd_cell _ _ _ _) hm))
theorem h_stR {bs : List Nat} {w₀ : World} {i : Nat} {o : Oper} {fuel : Nat} {L : Array Bool} {a : Act} {w : World} {b : Nat} {cs cs' : Array Value} {t : TypeId} (hr : Region.ready .any ops L = [i]) (ho : ops[i]? = some o) (hd : o.dst = none) (hw : Region.wanted o (yielded ops a.tmps) = true)
    (hrun : (execOp a.eval o).run P w = .ok .skip (w.setRow b cs')) (hb : Bk w b cs t) (hS : Sx bs w₀ w) (hm : b ∈ bs) (h : ∀ w', Upd w w' b → Bk w' b cs' t → Sx bs w₀ w' → wpAnyH P .any ops Q (Sx bs w₀) fuel (L.setIfInBounds i true) a w') : wpAnyH P .any ops Q (Sx bs w₀) (fuel + 1) L a w :=
  h_st hr ho hd hw hrun (hS.upd (upd_row _ _ _) hm) (h _ (upd_row _ _ _) (hb.row _) (hS.upd (upd_row _ _ _) hm))
end
theorem lp {P : Program} {Q : Exit → Act → World → Prop} {a : Act} {w : World} {c : Code} (I : Nat → Act → World → Prop) (n₀ : Nat) (h₀ : I n₀ a w)
    (round : ∀ n a w, I n a w → ∀ K : Act → World → Prop, (∀ n' a' w', n' < n → I n' a' w' → K a' w') → c.wp P (Exit.then K Q) a w) : (Code.loop c).wp P Q a w :=
  wp_loop_ghost I n₀ h₀ fun n a w h => round n a w h _ fun n' a' w' h1 h2 => ⟨n', h1, h2⟩
end Gx
