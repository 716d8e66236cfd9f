/- Where the document's own read stands: its node's block, and the nodes so far. -/
import Derived.Test.YtbodadddcbbjeaaDoorTsC
import Derived.Maps.Range
namespace Go
theorem append_at {P : Program} (w : World) (base : Nat) (t ty e : TypeId) (i : TypeInfo) (z : Value) (size bytes : Nat) (ht : P.underlying t = some (.slice e)) (hi : P.info? e = some i) (hz : i.zero = some z)
    (hsize : i.size = size) (hby : i.bytes = bytes) (hzs : z.cells.size = size) (hsz : 0 < size)
    (v : Value) (n : Nat) (xs : List Value) (hown : w.ownsRow base e size v n xs)
    (a : Addr) (m c : Nat) (news : List Value) (hl : news.length = m * size) (hnews : ∀ j u, news[j]? = some u → w.cell? (a.add j) = some u) (h1 : ∀ u ∈ news, u.oneCell' = true)
    (h63 : n + m ≤ maxLen) (hbytes : (n + m) * bytes ≤ 140737488355328) (hbase : base ≤ w.heap.size) (hm : 0 < m) :
    ∃ v' w', (Builtin.append_ #[t, t] ty #[v, .slice (some a) m c]).run P w = .ok v' w' ∧ w'.ownsRow base e size v' (n + m) (xs ++ news) ∧ w.grownBy w' v.ownBlock ∧
      (v'.ownBlock = v.ownBlock ∨ v'.ownBlock = some w.heap.size) := by
  obtain ⟨v', w', hr, h2, h3, -⟩ := run_append_own (P := P) w base t ty e i z size bytes ht hi hz hsize hby hzs hsz v n xs hown a m c news hl hnews h1 h63 hbytes hbase
  refine ⟨v', w', hr, h2, h3, ?_⟩
  subst hsize
  subst hby
  have h64 : n + m ≤ 9223372036854775807 := by simp only [maxLen] at h63; omega
  rcases hown.2 with ⟨rfl, rfl⟩ | ⟨g, cap, cur, rfl, hbg, hg, hnc, hcm, hcs, htake⟩
  · have hq := run_append_nil (P := P) w t ty e i z ht hi hz a m c news hl hnews hm (by omega) (by have hb := hbytes; simp only [Nat.zero_add] at hb; omega)
    rw [hr] at hq
    cases hq
    exact .inr rfl
  · by_cases hroom : n + m ≤ cap
    · have hfit : n * i.size + news.length ≤ cur.size := by rw [hl, hcs, ← Nat.add_mul]; exact Nat.mul_le_mul_right _ hroom
      have hq := run_append_room (P := P) w t ty e i ht hi g n cap cur hg a m c news hl hnews h1 hroom hfit
      rw [hr] at hq
      cases hq
      exact .inl rfl
    · have holds : ∀ j u, xs[j]? = some u → w.cell? ((⟨g, 0, none⟩ : Addr).add j) = some u := hown.cells (g := g) rfl
      have hq := run_append_grow (P := P) w t ty e i z ht hi hz ⟨g, 0, none⟩ n cap xs hown.1 holds a m c news hl hnews (by omega) (by omega) (growslice_fits (by omega) hbytes)
      rw [hr] at hq
      cases hq
      exact .inr rfl
theorem wpList_append_at {P : Program} (w : World) {ops : Array Oper} {rest : List Oper} {o : Oper} {a : Act} {Q : Exit → Act → World → Prop} (hgd : o.guard = none) (s x : Operand) (t : TypeId)
    (ho : o.op = .call { callee := .builtin .append, args := #[s, x], argTypes := #[t, t] })
    (base : Nat) (e : TypeId) (i : TypeInfo) (z : Value) (size bytes : Nat) (ht : P.underlying t = some (.slice e)) (hi : P.info? e = some i) (hz : i.zero = some z)
    (hsize : i.size = size) (hby : i.bytes = bytes) (hzs : z.cells.size = size) (hsz : 0 < size)
    (v : Value) (n : Nat) (xs : List Value) (hs : a.eval s = v) (hown : w.ownsRow base e size v n xs)
    (ad : Addr) (m c : Nat) (news : List Value) (hx : a.eval x = .slice (some ad) m c) (hl : news.length = m * size) (hnews : ∀ j u, news[j]? = some u → w.cell? (ad.add j) = some u) (h1 : ∀ u ∈ news, u.oneCell' = true)
    (h63 : n + m ≤ maxLen) (hbytes : (n + m) * bytes ≤ 140737488355328) (hbase : base ≤ w.heap.size) (hm : 0 < m)
    (h : ∀ v' w', w'.ownsRow base e size v' (n + m) (xs ++ news) → w.grownBy w' v.ownBlock → (v'.ownBlock = v.ownBlock ∨ v'.ownBlock = some w.heap.size) → wpList P ops Q rest (a.put o.dst v') w') : wpList P ops Q (o :: rest) a w :=
  wpList_plain hgd fun _ hK => by
    obtain ⟨v', w', hr, h2, h3, h4⟩ := append_at (P := P) w base t o.type e i z size bytes ht hi hz hsize hby hzs hsz v n xs hown ad m c news hl hnews h1 h63 hbytes hbase hm
    unfold Oper.wp execOp
    simp only [ho, resolve, invoke, builtin, Sem.run_bind, Sem.run_pure, Result.andThen_ok, List.map_toArray, List.map_cons, List.map_nil, hs, hx, hr]
    exact hK _ _ (h v' w' h2 h3 h4)
end Go
namespace Go.Proofs.YtbodadddcbbjeaaDoor
open Go.RowKit Rm
set_option linter.unusedVariables false
set_option linter.unusedSimpArgs false
theorem grown_set (w : World) (B o : Nat) (v : Value) : w.grownBy (w.setCell ⟨B, o, none⟩ v) (some B) :=
  ⟨rfl, rfl, rfl, by simp, fun k _ hk => heap_setCell_other w ⟨B, o, none⟩ k v (fun e => hk (by simp [e]))⟩
theorem grown_refl (w : World) (row : Option Nat) : w.grownBy w row := ⟨rfl, rfl, rfl, Nat.le_refl _, fun _ _ _ => rfl⟩
theorem grown_of {w w' : World} (g : Gr w w') : w.grownBy w' none := ⟨g.os, g.tape, g.output, g.size, fun k hk _ => Below.block g k hk⟩
/-- what is held while a node is read: N its block; u, l the nodes so far; u0 those at the beginning -/
structure RS (w W : World) (b N : Nat) (u0 u : Value) (l : List Nd) (k x y : Int) : Prop where
  gb : w.grownBy W u0.ownBlock
  nb : W.heap[N]? = some (.cells #[.int .i64 k, .int .i64 x, .int .i64 y] 30 (0, 0))
  ow : OwnN b W u l
  ne : u.ownBlock ≠ some N
  wn : w.heap.size ≤ N
  ub : u.ownBlock = u0.ownBlock ∨ ∀ j, u.ownBlock = some j → w.heap.size ≤ j
  bw : b ≤ w.heap.size
section
variable {w W : World} {b N : Nat} {u0 u : Value} {l : List Nd} {k x y : Int}
theorem RS.lt (h : RS w W b N u0 u l k x y) : N < W.heap.size := Blk_lt h.nb
theorem RS.cells (h : RS w W b N u0 u l k x y) : W.cell? ⟨N, 0, none⟩ = some (.int .i64 k) ∧ W.cell? ⟨N, 1, none⟩ = some (.int .i64 x) ∧ W.cell? ⟨N, 2, none⟩ = some (.int .i64 y) ∧ W.frozen? ⟨N, 0, none⟩ = false ∧ W.frozen? ⟨N, 1, none⟩ = false ∧ W.frozen? ⟨N, 2, none⟩ = false :=
  ⟨by rw [cell_of_row _ _ _ _ _ _ h.nb]; rfl, by rw [cell_of_row _ _ _ _ _ _ h.nb]; rfl, by rw [cell_of_row _ _ _ _ _ _ h.nb]; rfl, frozen_of_row _ _ _ _ _ h.nb, frozen_of_row _ _ _ _ _ h.nb, frozen_of_row _ _ _ _ _ h.nb⟩
theorem RS.set0 (h : RS w W b N u0 u l k x y) (v : Int) : RS w (W.setCell ⟨N, 0, none⟩ (.int .i64 v)) b N u0 u l v x y :=
  ⟨h.gb.andThen (grown_set W N 0 _) (fun j e => .inl (by cases e; exact h.wn)), heap_setCell_same _ _ 0 _ _ _ h.nb, own_far h.ow h.ne, h.ne, h.wn, h.ub, h.bw⟩
theorem RS.set1 (h : RS w W b N u0 u l k x y) (v : Int) : RS w (W.setCell ⟨N, 1, none⟩ (.int .i64 v)) b N u0 u l k v y :=
  ⟨h.gb.andThen (grown_set W N 1 _) (fun j e => .inl (by cases e; exact h.wn)), heap_setCell_same _ _ 1 _ _ _ h.nb, own_far h.ow h.ne, h.ne, h.wn, h.ub, h.bw⟩
theorem RS.set2 (h : RS w W b N u0 u l k x y) (v : Int) : RS w (W.setCell ⟨N, 2, none⟩ (.int .i64 v)) b N u0 u l k x v :=
  ⟨h.gb.andThen (grown_set W N 2 _) (fun j e => .inl (by cases e; exact h.wn)), heap_setCell_same _ _ 2 _ _ _ h.nb, own_far h.ow h.ne, h.ne, h.wn, h.ub, h.bw⟩
theorem RS.gr {W' : World} (h : RS w W b N u0 u l k x y) (g : Gr W W') : RS w W' b N u0 u l k x y :=
  ⟨h.gb.andThen (grown_of g) (fun j e => by cases e), (Below.block g _ h.lt).trans h.nb, h.ow.gr g, h.ne, h.wn, h.ub, h.bw⟩
theorem RS.call {W' : World} {u' : Value} {m : List Nd} (h : RS w W b N u0 u l k x y) (g : W.grownBy W' u.ownBlock) (ho : OwnN b W' u' m) (hu : u'.ownBlock = u.ownBlock ∨ ∀ j, u'.ownBlock = some j → W.heap.size ≤ j) : RS w W' b N u0 u' m k x y := by
  refine ⟨h.gb.andThen g (fun j e => ?_), (g.block N h.lt (fun e => h.ne e.symm)).trans h.nb, ho, ?_, h.wn, ?_, h.bw⟩
  · rcases h.ub with c | c
    · exact .inr (c ▸ e)
    · exact .inl (c j e)
  · intro e
    rcases hu with c | c
    · exact h.ne (c ▸ e)
    · have := c N e; have := h.lt; omega
  · rcases hu with c | c
    · rcases h.ub with d | d
      · exact .inl (c.trans d)
      · exact .inr fun j e => d j (c ▸ e)
    · exact .inr fun j e => by have := c j e; have := h.gb.size; omega
theorem RS.start (w : World) {b : Nat} {u : Value} {l : List Nd} (ho : OwnN b w u l) (hb : b ≤ w.heap.size) (k x y : Int) : RS w (w.alloc (.cells #[.int .i64 k, .int .i64 x, .int .i64 y] 30)) b w.heap.size u u l k x y := by
  have g : Gr w (w.alloc (.cells #[.int .i64 k, .int .i64 x, .int .i64 y] 30)) := (Gr.refl w).alloc _
  exact ⟨⟨g.os, g.tape, g.output, g.size, fun k hk _ => Below.block g k hk⟩, heap_alloc_new w _, ho.gr g, fun e => by have := (World.ownsRow.lt ho _ e).2; omega, Nat.le_refl _, .inl rfl, hb⟩
end
/-- what read says -/
def RSays (b : Nat) (u : Value) (o : Option (List UInt8 × List Nd)) (w : World) (e : Ending) (w' : World) : Prop :=
  w.grownBy w' u.ownBlock ∧ match o with
  | none => ∃ r, e = .returned (.tuple #[.slice none 0 0, .string (str r), .bool false])
  | some (r, m) => ∃ u', e = .returned (.tuple #[u', .string (str r), .bool true]) ∧ OwnN b w' u' m ∧ (u'.ownBlock = u.ownBlock ∨ ∀ k, u'.ownBlock = some k → w.heap.size ≤ k)
theorem RSays.from {b : Nat} {u : Value} {o : Option (List UInt8 × List Nd)} {w w1 w' : World} {e : Ending} (g : Gr w w1) (hz : w1.heap.size = w.heap.size) (h : RSays b u o w1 e w') : RSays b u o w e w' := by
  obtain ⟨h1, h2⟩ := h
  refine ⟨⟨h1.os.trans g.os, h1.tape.trans g.tape, h1.output.trans g.output, by have := h1.size; omega, fun k hk hn => (h1.block k (by omega) hn).trans (Below.block g k hk)⟩, ?_⟩
  cases o with
  | none => exact h2
  | some p =>
    obtain ⟨u', e1, e2, e3⟩ := h2
    refine ⟨u', e1, e2, ?_⟩
    rw [hz] at e3
    exact e3
theorem RS.fail {w W : World} {b N : Nat} {u0 u : Value} {l : List Nd} {k x y : Int} (h : RS w W b N u0 u l k x y) (r : List UInt8) : RSays b u0 none w (.returned (.tuple #[.slice none 0 0, .string (str r), .bool false])) W := ⟨h.gb, r, rfl⟩
theorem RS.fine {w W W' : World} {b N : Nat} {u0 u u' : Value} {l m : List Nd} {k x y : Int} (h : RS w W b N u0 u l k x y) (g : W.grownBy W' u.ownBlock) (ho : OwnN b W' u' m) (hu : u'.ownBlock = u.ownBlock ∨ ∀ j, u'.ownBlock = some j → W.heap.size ≤ j) (r : List UInt8) : RSays b u0 (some (r, m)) w (.returned (.tuple #[u', .string (str r), .bool true])) W' :=
  ⟨(h.call g ho hu).gb, u', rfl, ho, (h.call g ho hu).ub⟩
end Go.Proofs.YtbodadddcbbjeaaDoor
