/- Rows of structs, read, owned and stored to; func values; clear. -/
import Derived.Test.YtghjfakellaecaaGxO
import Derived.Test.YtghjfakellaecaaGxT
import Derived.Lib.SliceRun
import Derived.Laws.BitsAllLaws
set_option linter.unusedVariables false
set_option linter.unusedSimpArgs false
namespace Gx
open Go Go.RowKit Rm
/-- a function of the program -/
def FnOk (P : Program) (f : FuncId) : Prop := ∃ fn, P.funcs[f]? = some fn ∧ (fn.name == "runtime.NumGoroutine") = false ∧ fn.body.isNone = false
section
variable {P : Program} {ev : Operand → Value} {d : Option Tmp} {ty : TypeId} {p : String} {af : Array Edge} {g : Option (Nat × Bool)} {w : World}
theorem ev_func {a : Act} {f : FuncId} : a.eval (.func f) = .func (.func f) #[] #[] := rfl
theorem o_fv1 {x x0 : Operand} {f : FuncId} {caps : List Value} {v0 : Value} {ts : Array TypeId} (hf : FnOk P f) (hx : ev x = .func (.func f) #[] caps.toArray) (h0 : ev x0 = v0) :
    (execOp ev (Oper.mk d (.call (Call.mk (.value x) #[x0] ts)) ty p af g)).run P w = .ok (.enter f (v0 :: caps).toArray) w := by
  obtain ⟨fn, hf, hn, hb⟩ := hf
  have h1 : ¬ fn.name = "runtime.NumGoroutine" := by simpa using hn
  have h2 : ¬ fn.body = none := by intro e; rw [e] at hb; cases hb
  have h3 : (#[v0] ++ caps.toArray : Array Value) = (v0 :: caps).toArray := by simp
  simp [execOp, resolve, invoke, Deferred.ofValue, callFunc, hx, h0, Sem.run_bind, hf, h1, h2, go_sem]
theorem o_fv2 {x x0 x1 : Operand} {f : FuncId} {caps : List Value} {v0 v1 : Value} {ts : Array TypeId} (hf : FnOk P f) (hx : ev x = .func (.func f) #[] caps.toArray) (h0 : ev x0 = v0) (h1' : ev x1 = v1) :
    (execOp ev (Oper.mk d (.call (Call.mk (.value x) #[x0, x1] ts)) ty p af g)).run P w = .ok (.enter f (v0 :: v1 :: caps).toArray) w := by
  obtain ⟨fn, hf, hn, hb⟩ := hf
  have h1 : ¬ fn.name = "runtime.NumGoroutine" := by simpa using hn
  have h2 : ¬ fn.body = none := by intro e; rw [e] at hb; cases hb
  simp [execOp, resolve, invoke, Deferred.ofValue, callFunc, hx, h0, h1', Sem.run_bind, hf, h1, h2, go_sem]
theorem o_mf {fn : Fn} {first cap : Array Operand} {fs cs : List Value} (h0 : first.map ev = fs.toArray) (h : cap.map ev = cs.toArray) : (execOp ev (Oper.mk d (.makeFunc fn first cap) ty p af g)).run P w = .ok (.value (.func fn fs.toArray cs.toArray)) w := by
  rw [← h0, ← h]
  rfl
/-- slicing a slice to its end -/
theorem o_cutL {T E : TypeId} {x y : Operand} {b off n c k s : Nat} (hx : ev x = .slice (some ⟨b, off, none⟩) n c) (hy : ev y = .int .i64 (k : Int)) (hu : P.underlying T = some (.slice E)) (hs : (P.info? E).map (·.size) = some s) (hk : k ≤ n) (hc : n ≤ c) : (execOp ev (Oper.mk d (.slice T x (some y) none none) ty p af g)).run P w = .ok (.value (.slice (some ⟨b, if c = k then off else off + k * s, none⟩) (n - k) (c - k))) w := by
  have h1 := size_of hs w
  have hi' : (0 : Int) ≤ (k : Int) ∧ (k : Int) ≤ (n : Int) := by omega
  unfold execOp
  simp only [hx, hy, Option.map_none, Option.map_some, Instr.sliceAt, Instr.slice, Instr.sliceBounds, Instr.sliceBound, asIntOf, Sem.run_bind, run_underlying hu w, Sem.run_pure, Result.andThen_ok, h1, if_pos hi', Int.toNat_natCast, add_n]
  split <;> simp [go_sem, add_n]
end
theorem bk_part {w : World} {b : Nat} {cs : Array Value} {t : TypeId} (h : Bk w b cs t) {k : Nat} {l : List Value} (hl : (cs.toList.drop k).take l.length = l) : ∀ j v, l[j]? = some v → w.cell? ⟨b, k + j, none⟩ = some v := by
  intro j v hv
  refine h.cell _ ?_
  have hj := (List.getElem?_eq_some_iff.1 hv).1
  rw [← hl, List.getElem?_take_of_lt hj, List.getElem?_drop] at hv
  simpa using hv
/-! words of 32 bits -/
section
variable {P : Program} {ev : Operand → Value} {d : Option Tmp} {ty : TypeId} {p : String} {af : Array Edge} {g : Option (Nat × Bool)} {w : World}
theorem o_or32 {t t' : TypeId} {x y : Operand} {i j : Nat} (hx : ev x = .int .u32 (i : Int)) (hy : ev y = .int .u32 (j : Int)) (hi : i < 4294967296) (hj : j < 4294967296) : (execOp ev (Oper.mk d (.binOp .or t x y t') ty p af g)).run P w = .ok (.value (.int .u32 ((i ||| j : Nat) : Int))) w := by
  have h := u32_or_nat i j hi hj
  unfold execOp
  simp only [hx, hy, eqGuard, binOp, Sem.run_bind]
  rw [← h]
  rfl
theorem o_and32 {t t' : TypeId} {x y : Operand} {i j : Nat} (hx : ev x = .int .u32 (i : Int)) (hy : ev y = .int .u32 (j : Int)) (hi : i < 4294967296) (hj : j < 4294967296) : (execOp ev (Oper.mk d (.binOp .and t x y t') ty p af g)).run P w = .ok (.value (.int .u32 ((i &&& j : Nat) : Int))) w := by
  have h := u32_and_nat i j hi hj
  unfold execOp
  simp only [hx, hy, eqGuard, binOp, Sem.run_bind]
  rw [← h]
  rfl
theorem o_shl32 {t t' : TypeId} {x y : Operand} {n : Nat} (hx : ev x = .int .u32 1) (hy : ev y = .int .i64 (n : Int)) (hn : n < 32) : (execOp ev (Oper.mk d (.binOp .shl t x y t') ty p af g)).run P w = .ok (.value (.int .u32 ((2 ^ n : Nat) : Int))) w := by
  have h1 : min (n : Int).toNat IntKind.u32.bits = n := by simp [IntKind.bits]; omega
  have h3 : 2 ^ n < 2 ^ 32 := Nat.pow_lt_pow_right (by omega) hn
  have h2 : IntKind.u32.wrap ((2 : Int) ^ n) = (2 : Int) ^ n := by
    rw [show (2 : Int) ^ n = ((2 ^ n : Nat) : Int) by simp]
    exact IntWalk.u32_in _ ⟨Int.natCast_nonneg _, by omega⟩
  have hb : (binOp .shl t (.int .u32 1) (.int .i64 (n : Int))).run P w = .ok (.int .u32 ((2 ^ n : Nat) : Int)) w := by
    simp only [binOp, Op.shift]
    rw [if_neg (by omega), h1, Int.one_mul, h2, show (2 : Int) ^ n = ((2 ^ n : Nat) : Int) by simp]
    rfl
  simp [execOp, hx, hy, eqGuard, hb, h2, go_sem]
end
/-! rows -/
def flatE {E : Type} (enc : E → List Value) (K : List E) : List Value := K.flatMap enc
structure EncOk {E : Type} (enc : E → List Value) (s : Nat) : Prop where
  len : ∀ x, (enc x).length = s
  one : ∀ x, ∀ u ∈ enc x, u.oneCell' = true
section
variable {E : Type} {enc : E → List Value} {s : Nat}
theorem flatE_app (K L : List E) : flatE enc (K ++ L) = flatE enc K ++ flatE enc L := by simp [flatE]
theorem flatE_one (x : E) : flatE enc [x] = enc x := by simp [flatE]
theorem flatE_len (h : EncOk enc s) (K : List E) : (flatE enc K).length = K.length * s := by
  induction K with
  | nil => simp [flatE]
  | cons a K ih =>
    have : flatE enc (a :: K) = enc a ++ flatE enc K := by simp [flatE]
    rw [this, List.length_append, h.len, ih, List.length_cons, Nat.add_mul]
    omega
theorem flatE_ones (h : EncOk enc s) (K : List E) : ∀ u ∈ flatE enc K, u.oneCell' = true := by
  intro u hu
  obtain ⟨x, _, hx⟩ := List.mem_flatMap.1 hu
  exact h.one x u hx
theorem flatE_split (h : EncOk enc s) {K : List E} {i : Nat} {x : E} (hx : K[i]? = some x) : flatE enc K = flatE enc (K.take i) ++ enc x ++ flatE enc (K.drop (i + 1)) := by
  obtain ⟨hi, e⟩ := List.getElem?_eq_some_iff.1 hx
  have : K = K.take i ++ [x] ++ K.drop (i + 1) := by
    rw [← e, List.append_assoc, List.singleton_append, ← List.drop_eq_getElem_cons hi, List.take_append_drop]
  have e2 := congrArg (flatE enc) this
  rw [flatE_app, flatE_app, flatE_one] at e2
  exact e2
theorem flatE_take (h : EncOk enc s) (K : List E) (k : Nat) (hk : k ≤ K.length) : (flatE enc K).take (k * s) = flatE enc (K.take k) := by
  have e : flatE enc K = flatE enc (K.take k) ++ flatE enc (K.drop k) := by rw [← flatE_app, List.take_append_drop]
  have hl : (flatE enc (K.take k)).length = k * s := by rw [flatE_len h, List.length_take, Nat.min_eq_left hk]
  rw [e, ← hl, List.take_left]
theorem flatE_at (h : EncOk enc s) {K : List E} {i : Nat} {x : E} (hx : K[i]? = some x) {j : Nat} {u : Value} (hu : (enc x)[j]? = some u) : (flatE enc K)[i * s + j]? = some u := by
  obtain ⟨hi, e⟩ := List.getElem?_eq_some_iff.1 hx
  have hl : (flatE enc (K.take i)).length = i * s := by rw [flatE_len h, List.length_take, Nat.min_eq_left (Nat.le_of_lt hi)]
  have hj : j < (enc x).length := (List.getElem?_eq_some_iff.1 hu).1
  rw [flatE_split h hx, List.append_assoc, List.getElem?_append_right (by omega), hl, Nat.add_sub_cancel_left, List.getElem?_append_left hj]
  exact hu
/-- a slice of structs, read -/
def RdE (enc : E → List Value) (s : Nat) (w : World) (v : Value) (K : List E) : Prop :=
  ∃ a c, v = .slice a K.length c ∧ K.length ≤ c ∧ (K ≠ [] → ∃ b off, a = some ⟨b, off, none⟩ ∧ b < w.heap.size ∧ ∀ i x, K[i]? = some x → ∀ j u, (enc x)[j]? = some u → w.cell? ⟨b, off + i * s + j, none⟩ = some u)
/-- its cells alone -/
def RdA (enc : E → List Value) (s : Nat) (w : World) (a : Option Addr) (K : List E) : Prop :=
  K ≠ [] → ∃ b off, a = some ⟨b, off, none⟩ ∧ b < w.heap.size ∧ ∀ i x, K[i]? = some x → ∀ j u, (enc x)[j]? = some u → w.cell? ⟨b, off + i * s + j, none⟩ = some u
theorem RdE.form {w : World} {v : Value} {K : List E} (h : RdE enc s w v K) : ∃ a c, v = .slice a K.length c ∧ K.length ≤ c ∧ RdA enc s w a K := h
theorem RdA.gr {w w' : World} {a : Option Addr} {K : List E} (h : RdA enc s w a K) (g : Gr w w') : RdA enc s w' a K := fun hn => by
  obtain ⟨b, off, e, hb, hx⟩ := h hn
  exact ⟨b, off, e, Nat.lt_of_lt_of_le hb g.le, fun i x hi j u hu => (g.cells.1 b _ hb).trans (hx i x hi j u hu)⟩
theorem RdE.gr {w w' : World} {v : Value} {K : List E} (h : RdE enc s w v K) (g : Gr w w') : RdE enc s w' v K := by
  obtain ⟨a, c, e, hc, h⟩ := h
  exact ⟨a, c, e, hc, RdA.gr h g⟩
theorem RdE.of {w : World} {a : Option Addr} {c : Nat} {K : List E} (hc : K.length ≤ c) (h : RdA enc s w a K) : RdE enc s w (.slice a K.length c) K := ⟨a, c, rfl, hc, h⟩
theorem RdE.nil (w : World) : RdE enc s w (.slice none 0 0) [] := ⟨none, 0, rfl, Nat.le_refl _, fun h => absurd rfl h⟩
/-- the same cells, read as elements of another kind -/
theorem RdE.as {F : Type} {enc' : F → List Value} {w : World} {v : Value} {K : List E} (f : E → F) (hf : ∀ x, enc' (f x) = enc x) (h : RdE enc s w v K) : RdE enc' s w v (K.map f) := by
  obtain ⟨a, c, e, hc, h⟩ := h
  refine ⟨a, c, by rw [List.length_map]; exact e, by rw [List.length_map]; exact hc, fun hn => ?_⟩
  obtain ⟨b, off, e, hb, hx⟩ := h (by intro q; rw [q] at hn; exact hn rfl)
  refine ⟨b, off, e, hb, fun i y hi j u hu => ?_⟩
  rw [List.getElem?_map] at hi
  obtain ⟨x, hx', rfl⟩ := Option.map_eq_some_iff.1 hi
  rw [hf] at hu
  exact hx i x hx' j u hu
theorem RdE.own {w : World} {base : Nat} {e : TypeId} {v : Value} {K : List E} (he : EncOk enc s) (h : w.ownsRow base e s v K.length (flatE enc K)) : RdE enc s w v K := by
  obtain ⟨hl, ⟨rfl, hn⟩ | ⟨g, cap, cur, rfl, hb, hg, hnc, hm, hcs, ht⟩⟩ := h
  · obtain rfl : K = [] := List.eq_nil_of_length_eq_zero hn
    exact RdE.nil w
  · refine ⟨_, cap, rfl, hnc, fun _ => ⟨g, 0, rfl, (Array.getElem?_eq_some_iff.1 hg).1, fun i x hi j u hu => ?_⟩⟩
    have hk := flatE_at he hi hu
    have hlt : i * s + j < K.length * s := by rw [← hl]; exact (List.getElem?_eq_some_iff.1 hk).1
    rw [← ht, List.getElem?_take_of_lt hlt] at hk
    simp only [World.cell?, hg, Nat.zero_add]
    simpa using hk
/-- lists of cells, stored into -/
def splL : List Value → Nat → List Value → List Value
  | xs, _, [] => xs
  | xs, o, v :: r => splL (xs.set o v) (o + 1) r
theorem splL_len (vs : List Value) : ∀ (xs : List Value) (o : Nat), (splL xs o vs).length = xs.length := by
  induction vs with
  | nil => intro xs o; rfl
  | cons v r ih => intro xs o; rw [splL, ih, List.length_set]
theorem splL_eq (vs : List Value) : ∀ (xs : List Value) (o : Nat), o + vs.length ≤ xs.length → splL xs o vs = xs.take o ++ vs ++ xs.drop (o + vs.length) := by
  induction vs with
  | nil => intro xs o h; simp [splL]
  | cons v r ih =>
    intro xs o h
    simp only [List.length_cons] at h
    rw [splL, ih _ _ (by rw [List.length_set]; omega)]
    rw [List.take_set, List.drop_set_of_lt (by omega)]
    have e1 : (xs.take (o + 1)).set o v = xs.take o ++ [v] := by
      rw [List.take_add_one, List.getElem?_eq_getElem (show o < xs.length by omega)]
      have hl : (xs.take o).length = o := by rw [List.length_take]; omega
      simp only [Option.toList_some]
      rw [List.set_append_right _ _ (by omega), hl, Nat.sub_self]
      rfl
    rw [e1, List.length_cons, show o + 1 + r.length = o + (r.length + 1) by omega]
    simp
theorem splL_take (vs : List Value) : ∀ (xs : List Value) (o m : Nat), (splL xs o vs).take m = splL (xs.take m) o vs := by
  induction vs with
  | nil => intro xs o m; rfl
  | cons v r ih => intro xs o m; rw [splL, ih, splL, List.take_set]
theorem splL_before (vs : List Value) : ∀ (xs : List Value) (o m : Nat), m ≤ o → (splL xs o vs).take m = xs.take m := by
  induction vs with
  | nil => intro xs o m _; rfl
  | cons v r ih => intro xs o m h; rw [splL, ih _ _ _ (by omega), List.take_set_of_le h]
theorem splL_flat (h : EncOk enc s) {K : List E} {i : Nat} (hi : i < K.length) (x : E) : splL (flatE enc K) (i * s) (enc x) = flatE enc (K.set i x) := by
  have hl := flatE_len h K
  have hlt : i * s + s ≤ K.length * s := by
    have := Nat.mul_le_mul_right s (show i + 1 ≤ K.length by omega)
    rw [Nat.add_mul] at this; omega
  rw [splL_eq _ _ _ (by rw [h.len, hl]; exact hlt), h.len, flatE_take h K i (by omega)]
  have hx : (K.set i x)[i]? = some x := by rw [List.getElem?_set_self hi]
  rw [flatE_split h hx, List.take_set_of_le (Nat.le_refl _), List.drop_set_of_lt (by omega)]
  congr 1
  have e : flatE enc K = flatE enc (K.take (i + 1)) ++ flatE enc (K.drop (i + 1)) := by rw [← flatE_app, List.take_append_drop]
  have hl2 : (flatE enc (K.take (i + 1))).length = i * s + s := by rw [flatE_len h, List.length_take, Nat.min_eq_left (by omega), Nat.add_mul]; omega
  rw [e, ← hl2, List.drop_left]
/-- the block behind a store of many cells -/
theorem setCells_blk {b : Nat} {t : TypeId} {fr : Nat × Nat} (vs : List Value) : ∀ (o : Nat) (w : World) (cs : Array Value), w.heap[b]? = some (.cells cs t fr) → ∃ cs', (w.setCells b o vs).heap[b]? = some (.cells cs' t fr) ∧ cs'.toList = splL cs.toList o vs := by
  induction vs with
  | nil => intro o w cs h; exact ⟨cs, h, rfl⟩
  | cons v r ih =>
    intro o w cs h
    obtain ⟨cs', h1, h2⟩ := ih (o + 1) (w.setCell ⟨b, o, none⟩ v) (cs.setIfInBounds o v) (by simp [World.setCell, Array.getElem?_modify, h])
    exact ⟨cs', h1, by rw [h2, splL, Array.toList_setIfInBounds]⟩
theorem setCells_upd (b : Nat) (vs : List Value) : ∀ (o : Nat) (w : World), Upd w (w.setCells b o vs) b := by
  induction vs with
  | nil => intro o w; exact ⟨rfl, rfl, rfl, rfl, fun _ _ => rfl⟩
  | cons v r ih =>
    intro o w
    have u := upd_cell w b o v
    have h := ih (o + 1) (w.setCell ⟨b, o, none⟩ v)
    exact ⟨h.os.trans u.os, h.tape.trans u.tape, h.output.trans u.output, h.size.trans u.size, fun k hk => (h.oth k hk).trans (u.oth k hk)⟩
theorem Upd.grown {w w' : World} {b : Nat} (u : Upd w w' b) : w.grownBy w' (some b) :=
  ⟨u.os, u.tape, u.output, by rw [u.size]; exact Nat.le_refl _, fun k _ hk => u.oth k (fun e => hk (by rw [e]))⟩
theorem gb_gr {w w' w'' : World} {r : Option Nat} (h : w.grownBy w' r) (g : Gr w' w'') : w.grownBy w'' r :=
  ⟨g.os.trans h.os, g.tape.trans h.tape, g.output.trans h.output, Nat.le_trans h.size g.size, fun k hk hr => (Below.block g k (Nat.lt_of_lt_of_le hk h.size)).trans (h.block k hk hr)⟩
theorem gb_of {w w' : World} {r : Option Nat} (g : Gr w w') : w.grownBy w' r := ⟨g.os, g.tape, g.output, g.size, fun k hk _ => Below.block g k hk⟩
theorem gb_gb {w w' w'' : World} {r : Option Nat} (h : w.grownBy w' r) (g : w'.grownBy w'' r) : w.grownBy w'' r :=
  ⟨g.os.trans h.os, g.tape.trans h.tape, g.output.trans h.output, Nat.le_trans h.size g.size, fun k hk hr => (g.block k (Nat.lt_of_lt_of_le hk h.size) hr).trans (h.block k hk hr)⟩
theorem gb_upd {w w' w'' : World} {r : Option Nat} {b : Nat} (h : w.grownBy w' r) (u : Upd w' w'' b) (hb : w.heap.size ≤ b) : w.grownBy w'' r :=
  ⟨u.os.trans h.os, u.tape.trans h.tape, u.output.trans h.output, by rw [u.size]; exact h.size, fun k hk hr => (u.oth k (by omega)).trans (h.block k hk hr)⟩
theorem gb_self {w : World} {r : Option Nat} : w.grownBy w r := gb_of (Gr.refl w)
/-- a store of cells into a row of one's own -/
theorem ow_put {w : World} {base g off n c : Nat} {e : TypeId} {xs vs : List Value} (h : w.ownsRow base e s (.slice (some ⟨g, 0, none⟩) n c) n xs) (ho : off + vs.length ≤ n * s) :
    (w.setCells g off vs).ownsRow base e s (.slice (some ⟨g, 0, none⟩) n c) n (splL xs off vs) ∧ (∀ j, j < vs.length → (w.cell? ⟨g, off + j, none⟩).isSome = true) ∧ (∀ j, j < vs.length → w.frozen? ⟨g, off + j, none⟩ = false) := by
  obtain ⟨h1, ⟨hv, -⟩ | ⟨g', cap, cur, hv, h3, hg, h4, h5, h6, h7⟩⟩ := h
  · cases hv
  · injection hv with e1 e2 e3
    injection e1 with e1
    injection e1 with e1
    subst e1 e3
    obtain ⟨cs', k1, k2⟩ := setCells_blk vs off w cur hg
    have hnc : n * s ≤ c * s := Nat.mul_le_mul_right _ h4
    refine ⟨⟨by rw [splL_len]; exact h1, .inr ⟨g, c, cs', rfl, h3, k1, h4, h5, ?_, ?_⟩⟩, fun j hj => ?_, fun j hj => ?_⟩
    · have := congrArg List.length k2
      rw [splL_len] at this
      simpa [h6] using this
    · rw [k2, splL_take, h7]
    · simp only [World.cell?, hg]
      simp; omega
    · simp [World.frozen?, hg]
theorem run_clear_row (P : Program) (w : World) (ty : TypeId) (t e : TypeId) (z : Value) (b o n c : Nat) (hn : 0 < n) (ht : P.underlying t = some (.slice e)) (hz : (P.info? e).bind (·.zero) = some z) (h1 : ∀ u ∈ (Builtin.zeroCells z.cells n).toList, u.oneCell' = true)
    (hc : ∀ j, j < n * z.cells.size → (w.cell? ⟨b, o + j, none⟩).isSome = true) (hf : ∀ j, j < n * z.cells.size → w.frozen? ⟨b, o + j, none⟩ = false) :
    (Builtin.clear_ #[t] ty #[.slice (some ⟨b, o, none⟩) n c]).run P w = .ok (.tuple #[]) (w.setCells b o (Builtin.zeroCells z.cells n).toList) := by
  have hl : (Builtin.zeroCells z.cells n).toList.length = n * z.cells.size := by simp [Builtin.zeroCells]
  have hst := run_storeCells_cells (P := P) b o (Builtin.zeroCells z.cells n).toList 0 w (by rw [hl]; simpa using hc) (by rw [hl]; simpa using hf) h1
  simp only [Nat.add_zero] at hst
  have hv : (zeroValue e).run P w = .ok z w := by
    cases hq : P.info? e with
    | none => simp [hq] at hz
    | some i =>
      have hz' : i.zero = some z := by simpa [hq] using hz
      simp [zeroValue, typeInfo, hq, hz', go_sem]
  obtain ⟨m, rfl⟩ : ∃ m, n = m + 1 := ⟨n - 1, by omega⟩
  simp [Builtin.clear_, run_underlying ht, hv, hst]
/-- the rest of a row of one's own is cleared -/
theorem ow_clear {w : World} {base g n c k : Nat} {e : TypeId} {xs vs : List Value} (h : w.ownsRow base e s (.slice (some ⟨g, 0, none⟩) n c) n xs) (hk : k ≤ n) (hl : k * s + vs.length ≤ n * s) :
    (w.setCells g (k * s) vs).ownsRow base e s (.slice (some ⟨g, 0, none⟩) k c) k (xs.take (k * s)) := by
  have h2 := (ow_put (off := k * s) (vs := vs) h hl).1
  have h3 := ow_cut h2 hk
  rwa [splL_before _ _ _ _ (Nat.le_refl _)] at h3
theorem RdA.own {w : World} {base n c : Nat} {e : TypeId} {a : Option Addr} {K : List E} (he : EncOk enc s) (h : w.ownsRow base e s (.slice a n c) n (flatE enc K)) (hn : n = K.length) : RdA enc s w a K := by
  subst hn
  obtain ⟨a', c', q, -, h'⟩ := RdE.own he h
  injection q with q1 q2 q3
  subst q1
  exact h'
theorem ow_at {w : World} {base g n c : Nat} {e : TypeId} {K : List E} (he : EncOk enc s) (h : w.ownsRow base e s (.slice (some ⟨g, 0, none⟩) n c) n (flatE enc K)) (hn : n = K.length) {i : Nat} {x : E} (hx : K[i]? = some x) :
    ∀ j u, (enc x)[j]? = some u → w.cell? ⟨g, 0 + i * s + j, none⟩ = some u := by
  obtain ⟨b, off, e1, -, h2⟩ := RdA.own he h hn (fun q => by rw [q] at hx; simp at hx)
  injection e1 with e1
  injection e1 with e1 e2
  subst e1 e2
  exact h2 i x hx
theorem o_cutLt {P : Program} {ev : Operand → Value} {d : Option Tmp} {ty : TypeId} {p : String} {af : Array Edge} {g : Option (Nat × Bool)} {w : World} {T E : TypeId} {x y : Operand} {b off n c k s : Nat} (hx : ev x = .slice (some ⟨b, off, none⟩) n c) (hy : ev y = .int .i64 (k : Int)) (hu : P.underlying T = some (.slice E)) (hs : (P.info? E).map (·.size) = some s) (hk : k < n) (hc : n ≤ c) : (execOp ev (Oper.mk d (.slice T x (some y) none none) ty p af g)).run P w = .ok (.value (.slice (some ⟨b, off + k * s, none⟩) (n - k) (c - k))) w := by
  have h := o_cutL (d := d) (ty := ty) (p := p) (af := af) (g := g) (w := w) hx hy hu hs (Nat.le_of_lt hk) hc
  rw [if_neg (by omega)] at h
  exact h
/-- an element of a row of one's own is stored -/
theorem s_putE {P : Program} {ops : Array Oper} {Q : Exit → Act → World → Prop} {rest : List Oper} {a : Act} {w : World} {x y : Operand} {ty : TypeId} {p : String} {af : Array Edge} {gd : Option (Nat × Bool)} {base g n c i : Nat} {e t : TypeId} {K : List E} {u : E}
    (he : EncOk enc s) (hw : Region.wanted (Oper.mk none (.store t x y) ty p af gd) (yielded ops a.tmps) = true) (hx : a.eval x = .pointer (some ⟨g, 0 + i * s, none⟩)) (hy : a.eval y = .agg (enc u).toArray) (hi : (P.info? t).map (·.size) = some s)
    (hown : w.ownsRow base e s (.slice (some ⟨g, 0, none⟩) n c) n (flatE enc K)) (hn : n = K.length) (hlt : i < n)
    (h : ∀ w', w'.ownsRow base e s (.slice (some ⟨g, 0, none⟩) n c) n (flatE enc (K.set i u)) → w.grownBy w' (some g) → wpList P ops Q rest a w') : wpList P ops Q (Oper.mk none (.store t x y) ty p af gd :: rest) a w := by
  have hle : i * s + s ≤ n * s := by
    have := Nat.mul_le_mul_right s (show i + 1 ≤ n by omega)
    rw [Nat.add_mul] at this; omega
  obtain ⟨h1, h2, h3⟩ := ow_put (off := i * s) (vs := enc u) hown (by rw [he.len]; exact hle)
  rw [splL_flat he (by omega) u] at h1
  have hst := run_storeCells_cells (P := P) g (i * s) (enc u) 0 w (by simpa using h2) (by simpa using h3) (he.one u)
  simp only [Nat.add_zero] at hst
  refine ss (w' := w.setCells g (i * s) (enc u)) rfl hw ?_ (h _ h1 (setCells_upd _ _ _ _).grown)
  rw [Nat.zero_add] at hx
  have hsz := size_of hi w
  unfold execOp
  simp only [hx, hy, Instr.storeAt, Instr.sureAddr, storeVar, Value.cells, Sem.run_bind, Sem.run_pure, Result.andThen_ok, hsz]
  simp [he.len, hst, go_sem]
/-- the rest of a row of one's own is cleared -/
theorem s_clear {P : Program} {ops : Array Oper} {Q : Exit → Act → World → Prop} {rest : List Oper} {a : Act} {w : World} {x : Operand} {ty : TypeId} {p : String} {af : Array Edge} {gd : Option (Nat × Bool)} {base g n c k cc : Nat} {e t : TypeId} {K : List E} {z : Value}
    (he : EncOk enc s) (hw : Region.wanted (Oper.mk none (.call (Call.mk (.builtin .clear) #[x] #[t])) ty p af gd) (yielded ops a.tmps) = true) (hx : a.eval x = .slice (some ⟨g, 0 + k * s, none⟩) (n - k) cc)
    (ht : P.underlying t = some (.slice e)) (hz : (P.info? e).bind (·.zero) = some z) (hzs : z.cells.size = s) (hz1 : ∀ m, ∀ u ∈ (Builtin.zeroCells z.cells m).toList, u.oneCell' = true)
    (hown : w.ownsRow base e s (.slice (some ⟨g, 0, none⟩) n c) n (flatE enc K)) (hn : n = K.length) (hlt : k < n)
    (h : ∀ w', w'.ownsRow base e s (.slice (some ⟨g, 0, none⟩) k c) k (flatE enc (K.take k)) → w.grownBy w' (some g) → wpList P ops Q rest a w') : wpList P ops Q (Oper.mk none (.call (Call.mk (.builtin .clear) #[x] #[t])) ty p af gd :: rest) a w := by
  have hl : (Builtin.zeroCells z.cells (n - k)).toList.length = (n - k) * s := by simp [Builtin.zeroCells, hzs]
  have hle : k * s + (n - k) * s ≤ n * s := by rw [← Nat.add_mul]; exact Nat.mul_le_mul_right _ (by omega)
  obtain ⟨h1, h2, h3⟩ := ow_put (off := k * s) (vs := (Builtin.zeroCells z.cells (n - k)).toList) hown (by rw [hl]; exact hle)
  have h4 := ow_clear (k := k) (vs := (Builtin.zeroCells z.cells (n - k)).toList) hown (Nat.le_of_lt hlt) (by rw [hl]; exact hle)
  rw [flatE_take he K k (by omega)] at h4
  have hr := run_clear_row P w ty t e z g (k * s) (n - k) cc (by omega) ht hz (hz1 _) (by rw [hzs]; intro j hj; exact h2 j (by rw [hl]; exact hj)) (by rw [hzs]; intro j hj; exact h3 j (by rw [hl]; exact hj))
  refine s_step hw ?_
  rw [Nat.zero_add] at hx
  unfold Oper.wp execOp
  simp only [resolve, invoke, builtin, hx, Sem.run_bind, Sem.run_pure, Result.andThen_ok, List.map_toArray, List.map_cons, List.map_nil, hr]
  exact h _ h4 (setCells_upd _ _ _ _).grown
/-- a struct is stored into a part of a block -/
theorem ssP {P : Program} {ops : Array Oper} {Q : Exit → Act → World → Prop} {rest : List Oper} {a : Act} {w : World} {x y : Operand} {ty : TypeId} {p : String} {af : Array Edge} {gd : Option (Nat × Bool)} {b k : Nat} {t t' : TypeId} {cs cs' : Array Value} {vs : List Value}
    (hw : Region.wanted (Oper.mk none (.store t x y) ty p af gd) (yielded ops a.tmps) = true) (hx : a.eval x = .pointer (some ⟨b, k, none⟩)) (hy : a.eval y = .agg vs.toArray) (hi : (P.info? t).map (·.size) = some vs.length)
    (hb : Bk w b cs t') (hk : Nat.ble (k + vs.length) cs.size = true) (h1 : vs.all (·.oneCell') = true) (hcs : cs'.toList = splL cs.toList k vs)
    (h : ∀ w', Upd w w' b → Bk w' b cs' t' → wpList P ops Q rest a w') : wpList P ops Q (Oper.mk none (.store t x y) ty p af gd :: rest) a w := by
  have hk := Nat.le_of_ble_eq_true hk
  obtain ⟨c2, h2, h3⟩ := setCells_blk (b := b) vs k w cs hb
  have hc2 : c2 = cs' := by
    apply Array.toList_inj.1
    rw [h3, hcs]
  subst hc2
  have hst := run_storeCells_cells (P := P) b k vs 0 w (by
    intro j hj
    simp only [Nat.add_zero]
    have hlt : k + j < cs.size := by omega
    rw [hb.cell (k + j) (Array.getElem?_eq_getElem hlt)]
    rfl) (fun j hj => hb.frozen _) (fun v hv => List.all_eq_true.1 h1 v hv)
  simp only [Nat.add_zero] at hst
  refine ss (w' := w.setCells b k vs) rfl hw ?_ (h _ (setCells_upd _ _ _ _) h2)
  have hsz := size_of hi w
  unfold execOp
  simp only [hx, hy, Instr.storeAt, Instr.sureAddr, storeVar, Value.cells, Sem.run_bind, Sem.run_pure, Result.andThen_ok, hsz]
  simp [hst, go_sem]
end
end Gx
