/- What single operations do, over any frame. -/
import Derived.Test.YtghjfakellaecaaGx
import Derived.Test.YtghjfakellaecaaProg
import Derived.Great.BuildSlice
import Derived.Laws.AppendOwn
import Derived.Laws.OwnMore
set_option linter.unusedVariables false
set_option linter.unusedSimpArgs false
namespace Gx
open Go Go.RowKit Rm
def isRow (d : TypeDesc) : Bool := match d with | .struct _ | .array _ _ => true | _ => false
theorem size_of {P : Program} {t : TypeId} {s : Nat} (h : (P.info? t).map (·.size) = some s) (w : World) : (Go.sizeOf t).run P w = .ok s w := by
  cases hq : P.info? t with
  | none => simp [hq] at h
  | some i =>
    have hs : i.size = s := by simpa [hq] using h
    simp [Go.sizeOf, typeInfo, hq, hs, go_sem]
theorem add_n {b off k : Nat} : (⟨b, off, none⟩ : Addr).add k = ⟨b, off + k, none⟩ := by unfold Addr.add; split <;> simp_all
section
variable {P : Program} {ev : Operand → Value} {d : Option Tmp} {ty : TypeId} {p : String} {af : Array Edge} {g : Option (Nat × Bool)} {w : World}
theorem o_mv {x : Operand} {v : Value} (h : ev x = v) : (execOp ev (Oper.mk d (.move x) ty p af g)).run P w = .ok (.value v) w := by subst h; rfl
theorem o_as {x : Operand} {v : Value} (h : ev x = v) : (execOp ev (Oper.mk d (.assign x) ty p af g)).run P w = .ok (.value v) w := by subst h; rfl
theorem o_pkT {c x y : Operand} {v : Value} (hc : ev c = .bool true) (h : ev x = v) : (execOp ev (Oper.mk d (.pick c x y) ty p af g)).run P w = .ok (.value v) w := by
  subst h; simp [execOp, hc, asBool, go_sem]
theorem o_pkF {c x y : Operand} {v : Value} (hc : ev c = .bool false) (h : ev y = v) : (execOp ev (Oper.mk d (.pick c x y) ty p af g)).run P w = .ok (.value v) w := by
  subst h; simp [execOp, hc, asBool, go_sem]
theorem o_pkA {c x y : Operand} {b b' : Bool} (hc : ev c = .bool b) (hx : ev x = .bool b') (hy : ev y = .bool false) : (execOp ev (Oper.mk d (.pick c x y) ty p af g)).run P w = .ok (.value (.bool (b && b'))) w := by
  cases b <;> simp [execOp, hc, hx, hy, asBool, go_sem]
theorem o_pkO {c x y : Operand} {b b' : Bool} (hc : ev c = .bool b) (hx : ev x = .bool true) (hy : ev y = .bool b') : (execOp ev (Oper.mk d (.pick c x y) ty p af g)).run P w = .ok (.value (.bool (b || b'))) w := by
  cases b <;> simp [execOp, hc, hx, hy, asBool, go_sem]
theorem o_pk2 {c x y : Operand} {b : Bool} {v : Value} (hc : ev c = .bool b) (hx : ev x = v) (hy : ev y = v) : (execOp ev (Oper.mk d (.pick c x y) ty p af g)).run P w = .ok (.value v) w := by
  cases b <;> simp [execOp, hc, hx, hy, asBool, go_sem]
theorem o_ex {x : Operand} {vs : Array Value} {i : Nat} {v : Value} (h : ev x = .tuple vs) (hv : vs[i]? = some v) : (execOp ev (Oper.mk d (.extract x i) ty p af g)).run P w = .ok (.value v) w := by
  simp [execOp, Instr.extract, h, hv, go_sem]
theorem o_int {op : BinOp} {t t' : TypeId} {x y : Operand} {k : IntKind} {i j r : Int} (hx : ev x = .int k i) (hy : ev y = .int k j) (ho : (match op with | .add => some (k.wrap (i + j)) | .sub => some (k.wrap (i - j)) | .mul => some (k.wrap (i * j)) | _ => none) = some r) :
    (execOp ev (Oper.mk d (.binOp op t x y t') ty p af g)).run P w = .ok (.value (.int k r)) w := by
  cases op <;> simp at ho <;> subst ho <;> simp [execOp, hx, hy, eqGuard, binOp, Op.intArith, go_sem]
theorem o_add {t t' : TypeId} {x y : Operand} {i j r : Int} (hx : ev x = .int .i64 i) (hy : ev y = .int .i64 j) (hr : i + j = r) (h : -9223372036854775808 ≤ r ∧ r ≤ 9223372036854775807) : (execOp ev (Oper.mk d (.binOp .add t x y t') ty p af g)).run P w = .ok (.value (.int .i64 r)) w :=
  o_int hx hy (by rw [← hr] at h ⊢; exact congrArg some (IntWalk.i64_in _ h))
theorem o_sub {t t' : TypeId} {x y : Operand} {i j r : Int} (hx : ev x = .int .i64 i) (hy : ev y = .int .i64 j) (hr : i - j = r) (h : -9223372036854775808 ≤ r ∧ r ≤ 9223372036854775807) : (execOp ev (Oper.mk d (.binOp .sub t x y t') ty p af g)).run P w = .ok (.value (.int .i64 r)) w :=
  o_int hx hy (by rw [← hr] at h ⊢; exact congrArg some (IntWalk.i64_in _ h))
theorem o_mul {t t' : TypeId} {x y : Operand} {i j r : Int} (hx : ev x = .int .i64 i) (hy : ev y = .int .i64 j) (hr : i * j = r) (h : -9223372036854775808 ≤ r ∧ r ≤ 9223372036854775807) : (execOp ev (Oper.mk d (.binOp .mul t x y t') ty p af g)).run P w = .ok (.value (.int .i64 r)) w :=
  o_int hx hy (by rw [← hr] at h ⊢; exact congrArg some (IntWalk.i64_in _ h))
theorem o_cmp {op : BinOp} {t t' : TypeId} {x y : Operand} {k : IntKind} {i j : Int} {b : Bool} (hx : ev x = .int k i) (hy : ev y = .int k j) (ho : (match op with | .eql => some (i == j) | .neq => some (i != j) | .lss => some (decide (i < j)) | .leq => some (decide (i ≤ j)) | .gtr => some (decide (j < i)) | .geq => some (decide (j ≤ i)) | _ => none) = some b) :
    (execOp ev (Oper.mk d (.binOp op t x y t') ty p af g)).run P w = .ok (.value (.bool b)) w := by
  cases op <;> simp at ho <;> subst ho <;> simp [execOp, hx, hy, eqGuard, binOp, Op.intCmp, go_sem]
theorem o_eq {t t' : TypeId} {x y : Operand} {k : IntKind} {i j : Int} {b : Bool} (hx : ev x = .int k i) (hy : ev y = .int k j) (h : (i == j) = b) : (execOp ev (Oper.mk d (.binOp .eql t x y t') ty p af g)).run P w = .ok (.value (.bool b)) w := o_cmp hx hy (congrArg some h)
theorem o_neq {t t' : TypeId} {x y : Operand} {k : IntKind} {i j : Int} {b : Bool} (hx : ev x = .int k i) (hy : ev y = .int k j) (h : (i != j) = b) : (execOp ev (Oper.mk d (.binOp .neq t x y t') ty p af g)).run P w = .ok (.value (.bool b)) w := o_cmp hx hy (congrArg some h)
theorem o_lss {t t' : TypeId} {x y : Operand} {k : IntKind} {i j : Int} {b : Bool} (hx : ev x = .int k i) (hy : ev y = .int k j) (h : decide (i < j) = b) : (execOp ev (Oper.mk d (.binOp .lss t x y t') ty p af g)).run P w = .ok (.value (.bool b)) w := o_cmp hx hy (congrArg some h)
theorem o_leq {t t' : TypeId} {x y : Operand} {k : IntKind} {i j : Int} {b : Bool} (hx : ev x = .int k i) (hy : ev y = .int k j) (h : decide (i ≤ j) = b) : (execOp ev (Oper.mk d (.binOp .leq t x y t') ty p af g)).run P w = .ok (.value (.bool b)) w := o_cmp hx hy (congrArg some h)
theorem o_gtr {t t' : TypeId} {x y : Operand} {k : IntKind} {i j : Int} {b : Bool} (hx : ev x = .int k i) (hy : ev y = .int k j) (h : decide (j < i) = b) : (execOp ev (Oper.mk d (.binOp .gtr t x y t') ty p af g)).run P w = .ok (.value (.bool b)) w := o_cmp hx hy (congrArg some h)
theorem o_geq {t t' : TypeId} {x y : Operand} {k : IntKind} {i j : Int} {b : Bool} (hx : ev x = .int k i) (hy : ev y = .int k j) (h : decide (j ≤ i) = b) : (execOp ev (Oper.mk d (.binOp .geq t x y t') ty p af g)).run P w = .ok (.value (.bool b)) w := o_cmp hx hy (congrArg some h)
theorem o_not {t : TypeId} {x : Operand} {b b' : Bool} (hx : ev x = .bool b) (h : (!b) = b') : (execOp ev (Oper.mk d (.unOp .not t x) ty p af g)).run P w = .ok (.value (.bool b')) w := by
  subst h; simp [execOp, hx, Op.unary, go_sem]
theorem equal_bool {t : TypeId} (i j : Bool) (hu : P.underlying t = some .bool) : (Op.equal t (.bool i) (.bool j)).run P w = .ok (i == j) w := by
  unfold Op.equal
  show (Op.equalIn (Op.maxDepth - 1 + 1) t (.bool i) (.bool j)).run P w = _
  generalize Op.maxDepth - 1 = n
  simp only [Op.equalIn, Sem.run_bind, run_underlying hu w, Result.andThen_ok]
  rfl
theorem o_eqB {t t' : TypeId} {x y : Operand} {i j b : Bool} (hx : ev x = .bool i) (hy : ev y = .bool j) (h : (i == j) = b) (hu : P.underlying t = some .bool) : (execOp ev (Oper.mk d (.binOp .eql t x y t') ty p af g)).run P w = .ok (.value (.bool b)) w := by
  subst h
  unfold execOp
  simp only [hx, hy, eqGuard, binOp, Sem.run_bind, equal_bool i j hu, Sem.run_pure, Result.andThen_ok]
  rfl
theorem o_neqB {t t' : TypeId} {x y : Operand} {i j b : Bool} (hx : ev x = .bool i) (hy : ev y = .bool j) (h : (i != j) = b) (hu : P.underlying t = some .bool) : (execOp ev (Oper.mk d (.binOp .neq t x y t') ty p af g)).run P w = .ok (.value (.bool b)) w := by
  subst h
  unfold execOp
  simp only [hx, hy, eqGuard, binOp, Sem.run_bind, equal_bool i j hu, Sem.run_pure, Result.andThen_ok]
  rfl
/-- a new variable -/
theorem o_al {t : TypeId} {z : Value} (hz : (P.info? t).bind (·.zero) = some z) : (execOp ev (Oper.mk d (.alloc t) ty p af g)).run P w = .ok (.value (.pointer (some ⟨w.heap.size, 0, none⟩))) (w.alloc (.cells z.cells t)) := by
  cases hq : P.info? t with
  | none => simp [hq] at hz
  | some i =>
    have hz' : i.zero = some z := by simpa [hq] using hz
    simp [execOp, Instr.alloc, zeroValue, typeInfo, hq, hz', newVar, newRow, go_sem]
theorem o_box {t : TypeId} {x : Operand} {v : Value} (hx : ev x = v) : (execOp ev (Oper.mk d (.box t x) ty p af g)).run P w = .ok (.value (.pointer (some ⟨w.heap.size, 0, none⟩))) (w.alloc (.cells v.cells t)) := by
  subst hx
  simp [execOp, Instr.box, newVar, newRow, go_sem]
/-- loads -/
theorem o_ld {t : TypeId} {x : Operand} {b k : Nat} {v : Value} (hx : ev x = .pointer (some ⟨b, k, none⟩)) (hA : (isAgg t).run P w = .ok false w) (hc : w.cell? ⟨b, k, none⟩ = some v) : (execOp ev (Oper.mk d (.load t x) ty p af g)).run P w = .ok (.value v) w := by
  simp [execOp, Instr.loadAt, Instr.sureAddr, hx, loadVar, hA, hc, go_sem]
theorem ld_row {t t' : TypeId} {b : Nat} {cs : Array Value} {ds : TypeDesc} (hb : Bk w b cs t') (hu : P.underlying t = some ds) (hd : isRow ds = true) (hi : (P.info? t).map (·.size) = some cs.size) : (loadVar t ⟨b, 0, none⟩).run P w = .ok (.agg cs) w := by
  cases ds <;> first | (cases hd; done) | exact run_loadVar_row w b t' t cs (0, 0) _ hb hu rfl hi
theorem o_ldR {t t' : TypeId} {x : Operand} {b : Nat} {cs : Array Value} {ds : TypeDesc} (hx : ev x = .pointer (some ⟨b, 0, none⟩)) (hb : Bk w b cs t') (hu : P.underlying t = some ds) (hd : isRow ds = true) (hi : (P.info? t).map (·.size) = some cs.size) : (execOp ev (Oper.mk d (.load t x) ty p af g)).run P w = .ok (.value (.agg cs)) w := by
  unfold execOp
  simp only [hx, Instr.loadAt, Instr.sureAddr, Sem.run_bind, Sem.run_pure, Result.andThen_ok, ld_row hb hu hd hi]
/-- a struct or an array within a row -/
theorem o_ldA {t : TypeId} {x : Operand} {b k : Nat} {cs : List Value} {ds : TypeDesc} (hx : ev x = .pointer (some ⟨b, k, none⟩)) (hc : ∀ j v, cs[j]? = some v → w.cell? ⟨b, k + j, none⟩ = some v) (hu : P.underlying t = some ds) (hd : isRow ds = true) (hi : (P.info? t).map (·.size) = some cs.length) : (execOp ev (Oper.mk d (.load t x) ty p af g)).run P w = .ok (.value (.agg cs.toArray)) w := by
  have hl : (loadCells ⟨b, k, none⟩ cs.length).run P w = .ok cs.toArray w := run_loadCells_list (P := P) w ⟨b, k, none⟩ cs (fun j v hv => by
    rw [add_n]; exact hc j v hv)
  have hagg : (isAgg t).run P w = .ok true w := by
    unfold isAgg
    rw [Sem.run_bind, run_underlying hu w]
    cases ds <;> simp_all [go_sem, isRow]
  unfold execOp
  simp only [hx, Instr.loadAt, Instr.sureAddr, Sem.run_bind, Sem.run_pure, Result.andThen_ok, loadVar, hagg, if_true, size_of hi, hl]
/-- stores -/
theorem o_stR {t t' : TypeId} {x y : Operand} {b : Nat} {cs old : Array Value} (hx : ev x = .pointer (some ⟨b, 0, none⟩)) (hy : ev y = .agg cs) (hb : Bk w b old t') (hi : (P.info? t).map (·.size) = some cs.size) (ho : old.size = cs.size) (h1 : cs.all (·.oneCell') = true) : (execOp ev (Oper.mk d (.store t x y) ty p af g)).run P w = .ok .skip (w.setRow b cs) := by
  have h := run_storeVar_row w b t' t old cs hb hi ho h1
  unfold execOp
  simp only [hx, hy, Instr.storeAt, Instr.sureAddr, Sem.run_bind, Sem.run_pure, Result.andThen_ok]
  rw [h]
  rfl
theorem o_st {t t' : TypeId} {x y : Operand} {b k : Nat} {v u : Value} {cs : Array Value} (hx : ev x = .pointer (some ⟨b, k, none⟩)) (hy : ev y = v) (hb : Bk w b cs t') (hk : cs[k]? = some u) (hi : (P.info? t).map (·.size) = some 1) (h1 : v.oneCell' = true) : (execOp ev (Oper.mk d (.store t x y) ty p af g)).run P w = .ok .skip (w.setCell ⟨b, k, none⟩ v) := by
  have hc := hb.cell k hk
  have hf := hb.frozen k
  have hv : v.cells = #[v] := by cases v <;> simp_all [Value.cells, Value.oneCell']
  have h := run_store P w ⟨b, k, none⟩ v .plain h1
  unfold execOp
  simp only [hx, hy, Instr.storeAt, Instr.sureAddr, Sem.run_bind, Sem.run_pure, Result.andThen_ok, storeVar, size_of hi, hv]
  simp [storeCells, add_n, h, hc, hf, go_sem]
/-- addresses -/
theorem o_fa {T : TypeId} {x : Operand} {f : Nat} {b k : Nat} {fs : Array Field} {fd : Field} {z : Nat} (hx : ev x = .pointer (some ⟨b, k, none⟩)) (hu : P.underlying T = some (.struct fs)) (hf : fs[f]? = some fd) (hi : (P.info? fd.type).map (·.size) = some z) (hs : Nat.beq z 0 = false) {k' : Nat} (hk : k + fd.offset = k') : (execOp ev (Oper.mk d (.fieldAddr T x f) ty p af g)).run P w = .ok (.value (.pointer (some ⟨b, k', none⟩))) w := by
  have hs' : ¬ z = 0 := Nat.ne_of_beq_eq_false hs
  subst hk
  have h1 : (Go.sizeOf fd.type).run P w = .ok z w := size_of hi w
  unfold execOp
  simp only [hx, Instr.fieldAt, Sem.run_bind, run_underlying hu w, Sem.run_pure, Result.andThen_ok, hf, Instr.sureAddr, fieldPlace, h1, if_neg hs', add_n]
theorem o_ia {T E : TypeId} {x y : Operand} {b off n c s : Nat} {i : Nat} (hx : ev x = .slice (some ⟨b, off, none⟩) n c) (hy : ev y = .int .i64 (i : Int)) (hu : P.underlying T = some (.slice E)) (hs : (P.info? E).map (·.size) = some s) (hi : i < n) : (execOp ev (Oper.mk d (.indexAddr T x y) ty p af g)).run P w = .ok (.value (.pointer (some ⟨b, off + i * s, none⟩))) w := by
  have h1 := size_of hs w
  have hi' : (0 : Int) ≤ (i : Int) ∧ (i : Int) < (n : Int) := by omega
  unfold execOp
  simp only [hx, hy, Instr.indexAt, asIntOf, Sem.run_bind, run_underlying hu w, Sem.run_pure, Result.andThen_ok, if_pos hi', h1, Int.toNat_natCast, add_n]
theorem o_iaV {T E : TypeId} {x y : Operand} {ad : Option Addr} {b off n c s : Nat} {i : Nat} (ha : ad = some ⟨b, off, none⟩) (hx : ev x = .slice ad n c) (hy : ev y = .int .i64 (i : Int)) (hu : P.underlying T = some (.slice E)) (hs : (P.info? E).map (·.size) = some s) (hi : i < n) : (execOp ev (Oper.mk d (.indexAddr T x y) ty p af g)).run P w = .ok (.value (.pointer (some ⟨b, off + i * s, none⟩))) w := by
  subst ha; exact o_ia hx hy hu hs hi
theorem o_iaA {T E : TypeId} {x y : Operand} {b off n s : Nat} {i : Nat} (hx : ev x = .pointer (some ⟨b, off, none⟩)) (hy : ev y = .int .i64 (i : Int)) (hu : P.underlying T = some (.array n E)) (hs : (P.info? E).map (·.size) = some s) (hi : i < n) : (execOp ev (Oper.mk d (.indexAddr T x y) ty p af g)).run P w = .ok (.value (.pointer (some ⟨b, off + i * s, none⟩))) w := by
  have h1 := size_of hs w
  have hi' : (0 : Int) ≤ (i : Int) ∧ (i : Int) < (n : Int) := by omega
  unfold execOp
  simp only [hx, hy, Instr.indexAt, Instr.sureAddr, asIntOf, Sem.run_bind, run_underlying hu w, Sem.run_pure, Result.andThen_ok, if_pos hi', h1, Int.toNat_natCast, add_n]
/-- slices -/
theorem o_len {x : Operand} {T : TypeId} {E : TypeId} {a : Option Addr} {n c : Nat} (hx : ev x = .slice a n c) (hu : P.underlying T = some (.slice E)) : (execOp ev (Oper.mk d (.call (Call.mk (.builtin .len) #[x] #[T])) ty p af g)).run P w = .ok (.value (.int .i64 (n : Int))) w := by
  simp [execOp, resolve, invoke, builtin, Builtin.len_, hx, run_underlying hu, goInt, go_sem]
theorem o_fn {f : FuncId} {xs : Array Operand} {vs : Array Value} {ts : Array TypeId} {fn : Func} (hf : P.funcs[f]? = some fn) (hn : (fn.name == "runtime.NumGoroutine") = false) (hb : fn.body.isNone = false) (hev : ev (.func f) = .func (.func f) #[] #[]) (hx : xs.map ev = vs) : (execOp ev (Oper.mk d (.call (Call.mk (.value (.func f)) xs ts)) ty p af g)).run P w = .ok (.enter f vs) w := by
  subst hx
  have h1 : ¬ fn.name = "runtime.NumGoroutine" := by simpa using hn
  have h2 : ¬ fn.body = none := by intro e; rw [e] at hb; cases hb
  simp [execOp, resolve, invoke, Deferred.ofValue, callFunc, hev, Sem.run_bind, hf, h1, h2, go_sem]
theorem ev_const {a : Act} {v : Value} : a.eval (.const v) = v := rfl
theorem o_bd {t : TypeId} {parts : Array (Nat × Operand)} {vs : List (Nat × Value)} {cells : Array Value} (hx : (parts.map fun (i, x) => (i, ev x)).toList = vs) (hc : P.built t vs = some cells) : (execOp ev (Oper.mk d (.build t parts) ty p af g)).run P w = .ok (.value (.agg cells)) w := by
  subst hx
  have h := run_build (P := P) w t _ cells hc
  unfold execOp
  simp only [Sem.run_bind, h, Result.andThen_ok]
  rfl
theorem o_bs {t e : TypeId} {len : Nat} {parts : Array (Nat × Operand)} {vs : List (Nat × Value)} {cells : Array Value} {ie : TypeInfo} {z : Value} (hx : (parts.map fun (i, x) => (i, ev x)).toList = vs) (hu : P.underlying t = some (.slice e)) (hie : P.info? e = some ie) (hz : ie.zero = some z) (hs : Nat.ble (len * ie.size) 16777216 = true) (hp : Nat.blt 0 (len * ie.size) = true)
    (hf : Instr.fill (fun i => some (i * ie.size, ie.size)) ((Array.range (len * ie.size)).map (z.cells[· % z.cells.size]!)) vs = some cells) : (execOp ev (Oper.mk d (.buildSlice t len parts) ty p af g)).run P w = .ok (.value (.slice (some ⟨w.heap.size, 0, none⟩) len len)) (w.alloc (.cells cells e)) := by
  subst hx
  have h := run_buildSlice (P := P) w t e len (parts.map fun (i, x) => (i, ev x)) cells ie z hu hie hz (by have := Nat.le_of_ble_eq_true hs; simpa using this) (Nat.ne_of_gt (by simpa using hp)) (by simpa using hf)
  unfold execOp
  simp only [Sem.run_bind, h, Result.andThen_ok]
  rfl
theorem mapM_sizes {fs : Array Field} (h : ∀ f ∈ fs, ((P.info? f.type).map (·.size)).isSome = true) : ∃ l, (fs.mapM fun f => (Prod.mk f.offset <$> Go.sizeOf f.type : Sem (Nat × Nat))).run P w = .ok l w := by
  rw [Array.mapM_eq_mapM_toList]
  have key : ∀ l : List Field, (∀ f ∈ l, ((P.info? f.type).map (·.size)).isSome = true) → ∃ r, (l.mapM fun f => (Prod.mk f.offset <$> Go.sizeOf f.type : Sem (Nat × Nat))).run P w = .ok r w := by
    intro l
    induction l with
    | nil => exact fun _ => ⟨[], by simp [go_sem]⟩
    | cons f l ih =>
      intro h
      obtain ⟨r, hr⟩ := ih fun x hx => h x (List.mem_cons_of_mem _ hx)
      obtain ⟨z, hz⟩ := Option.isSome_iff_exists.1 (h f (by simp))
      exact ⟨(f.offset, z) :: r, by simp [List.mapM_cons, size_of hz, hr, go_sem]⟩
  obtain ⟨r, hr⟩ := key fs.toList fun f hf => h f (by simpa using hf)
  exact ⟨r.toArray, by simp [hr, go_sem]⟩
theorem o_b0 {t : TypeId} {cs : Array Value} {fs : Array Field} (hu : P.underlying t = some (.struct fs)) (hz : (P.info? t).bind (·.zero) = some (.agg cs)) (hs : fs.all (fun f => ((P.info? f.type).map (·.size)).isSome) = true) : (execOp ev (Oper.mk d (.build t #[]) ty p af g)).run P w = .ok (.value (.agg cs)) w := by
  obtain ⟨l, hl⟩ := mapM_sizes (P := P) (w := w) (fs := fs) (fun f hf => Array.all_eq_true'.1 hs f hf)
  cases hq : P.info? t with
  | none => simp [hq] at hz
  | some i =>
    have hz' : i.zero = some (.agg cs) := by simpa [hq] using hz
    simp [execOp, Instr.build, zeroValue, typeInfo, hq, hz', run_underlying hu, hl, go_sem]
theorem o_b0A {t e : TypeId} {n : Nat} {cs : Array Value} (hu : P.underlying t = some (.array n e)) (hz : (P.info? t).bind (·.zero) = some (.agg cs)) (hs : ((P.info? e).map (·.size)).isSome = true) : (execOp ev (Oper.mk d (.build t #[]) ty p af g)).run P w = .ok (.value (.agg cs)) w := by
  obtain ⟨z, hz1⟩ := Option.isSome_iff_exists.1 hs
  cases hq : P.info? t with
  | none => simp [hq] at hz
  | some i =>
    have hz' : i.zero = some (.agg cs) := by simpa [hq] using hz
    simp [execOp, Instr.build, Instr.fill, zeroValue, typeInfo, hq, hz', run_underlying hu, size_of hz1, go_sem]
theorem o_f0 {f : FuncId}   {ts : Array TypeId} {fn : Func} (hf : P.funcs[f]? = some fn) (hn : (fn.name == "runtime.NumGoroutine") = false) (hb : fn.body.isNone = false) (hev : ev (.func f) = .func (.func f) #[] #[])  : (execOp ev (Oper.mk d (.call (Call.mk (.value (.func f)) #[] ts)) ty p af g)).run P w = .ok (.enter f #[]) w := o_fn hf hn hb hev (by simp [])
theorem o_f1 {f : FuncId} {x0 : Operand} {v0 : Value} {ts : Array TypeId} {fn : Func} (hf : P.funcs[f]? = some fn) (hn : (fn.name == "runtime.NumGoroutine") = false) (hb : fn.body.isNone = false) (hev : ev (.func f) = .func (.func f) #[] #[]) (h0 : ev x0 = v0) : (execOp ev (Oper.mk d (.call (Call.mk (.value (.func f)) #[x0] ts)) ty p af g)).run P w = .ok (.enter f #[v0]) w := o_fn hf hn hb hev (by simp [h0])
theorem o_f2 {f : FuncId} {x0 x1 : Operand} {v0 v1 : Value} {ts : Array TypeId} {fn : Func} (hf : P.funcs[f]? = some fn) (hn : (fn.name == "runtime.NumGoroutine") = false) (hb : fn.body.isNone = false) (hev : ev (.func f) = .func (.func f) #[] #[]) (h0 : ev x0 = v0) (h1 : ev x1 = v1) : (execOp ev (Oper.mk d (.call (Call.mk (.value (.func f)) #[x0, x1] ts)) ty p af g)).run P w = .ok (.enter f #[v0, v1]) w := o_fn hf hn hb hev (by simp [h0, h1])
theorem o_f3 {f : FuncId} {x0 x1 x2 : Operand} {v0 v1 v2 : Value} {ts : Array TypeId} {fn : Func} (hf : P.funcs[f]? = some fn) (hn : (fn.name == "runtime.NumGoroutine") = false) (hb : fn.body.isNone = false) (hev : ev (.func f) = .func (.func f) #[] #[]) (h0 : ev x0 = v0) (h1 : ev x1 = v1) (h2 : ev x2 = v2) : (execOp ev (Oper.mk d (.call (Call.mk (.value (.func f)) #[x0, x1, x2] ts)) ty p af g)).run P w = .ok (.enter f #[v0, v1, v2]) w := o_fn hf hn hb hev (by simp [h0, h1, h2])
theorem o_f4 {f : FuncId} {x0 x1 x2 x3 : Operand} {v0 v1 v2 v3 : Value} {ts : Array TypeId} {fn : Func} (hf : P.funcs[f]? = some fn) (hn : (fn.name == "runtime.NumGoroutine") = false) (hb : fn.body.isNone = false) (hev : ev (.func f) = .func (.func f) #[] #[]) (h0 : ev x0 = v0) (h1 : ev x1 = v1) (h2 : ev x2 = v2) (h3 : ev x3 = v3) : (execOp ev (Oper.mk d (.call (Call.mk (.value (.func f)) #[x0, x1, x2, x3] ts)) ty p af g)).run P w = .ok (.enter f #[v0, v1, v2, v3]) w := o_fn hf hn hb hev (by simp [h0, h1, h2, h3])
theorem o_f5 {f : FuncId} {x0 x1 x2 x3 x4 : Operand} {v0 v1 v2 v3 v4 : Value} {ts : Array TypeId} {fn : Func} (hf : P.funcs[f]? = some fn) (hn : (fn.name == "runtime.NumGoroutine") = false) (hb : fn.body.isNone = false) (hev : ev (.func f) = .func (.func f) #[] #[]) (h0 : ev x0 = v0) (h1 : ev x1 = v1) (h2 : ev x2 = v2) (h3 : ev x3 = v3) (h4 : ev x4 = v4) : (execOp ev (Oper.mk d (.call (Call.mk (.value (.func f)) #[x0, x1, x2, x3, x4] ts)) ty p af g)).run P w = .ok (.enter f #[v0, v1, v2, v3, v4]) w := o_fn hf hn hb hev (by simp [h0, h1, h2, h3, h4])
theorem o_f6 {f : FuncId} {x0 x1 x2 x3 x4 x5 : Operand} {v0 v1 v2 v3 v4 v5 : Value} {ts : Array TypeId} {fn : Func} (hf : P.funcs[f]? = some fn) (hn : (fn.name == "runtime.NumGoroutine") = false) (hb : fn.body.isNone = false) (hev : ev (.func f) = .func (.func f) #[] #[]) (h0 : ev x0 = v0) (h1 : ev x1 = v1) (h2 : ev x2 = v2) (h3 : ev x3 = v3) (h4 : ev x4 = v4) (h5 : ev x5 = v5) : (execOp ev (Oper.mk d (.call (Call.mk (.value (.func f)) #[x0, x1, x2, x3, x4, x5] ts)) ty p af g)).run P w = .ok (.enter f #[v0, v1, v2, v3, v4, v5]) w := o_fn hf hn hb hev (by simp [h0, h1, h2, h3, h4, h5])
theorem o_f7 {f : FuncId} {x0 x1 x2 x3 x4 x5 x6 : Operand} {v0 v1 v2 v3 v4 v5 v6 : Value} {ts : Array TypeId} {fn : Func} (hf : P.funcs[f]? = some fn) (hn : (fn.name == "runtime.NumGoroutine") = false) (hb : fn.body.isNone = false) (hev : ev (.func f) = .func (.func f) #[] #[]) (h0 : ev x0 = v0) (h1 : ev x1 = v1) (h2 : ev x2 = v2) (h3 : ev x3 = v3) (h4 : ev x4 = v4) (h5 : ev x5 = v5) (h6 : ev x6 = v6) : (execOp ev (Oper.mk d (.call (Call.mk (.value (.func f)) #[x0, x1, x2, x3, x4, x5, x6] ts)) ty p af g)).run P w = .ok (.enter f #[v0, v1, v2, v3, v4, v5, v6]) w := o_fn hf hn hb hev (by simp [h0, h1, h2, h3, h4, h5, h6])
theorem o_eqI {t t' : TypeId} {x y : Operand} {k : IntKind} {i j : Int} (hx : ev x = .int k i) (hy : ev y = .int k j) : (execOp ev (Oper.mk d (.binOp .eql t x y t') ty p af g)).run P w = .ok (.value (.bool (decide (i = j)))) w := o_eq hx hy rfl
theorem o_neI {t t' : TypeId} {x y : Operand} {k : IntKind} {i j : Int} (hx : ev x = .int k i) (hy : ev y = .int k j) : (execOp ev (Oper.mk d (.binOp .neq t x y t') ty p af g)).run P w = .ok (.value (.bool (decide (¬ i = j)))) w := o_neq hx hy (by by_cases h : i = j <;> simp [h])
theorem o_ltI {t t' : TypeId} {x y : Operand} {k : IntKind} {i j : Int} (hx : ev x = .int k i) (hy : ev y = .int k j) : (execOp ev (Oper.mk d (.binOp .lss t x y t') ty p af g)).run P w = .ok (.value (.bool (decide (i < j)))) w := o_lss hx hy rfl
theorem o_leI {t t' : TypeId} {x y : Operand} {k : IntKind} {i j : Int} (hx : ev x = .int k i) (hy : ev y = .int k j) : (execOp ev (Oper.mk d (.binOp .leq t x y t') ty p af g)).run P w = .ok (.value (.bool (decide (i ≤ j)))) w := o_leq hx hy rfl
theorem o_gtI {t t' : TypeId} {x y : Operand} {k : IntKind} {i j : Int} (hx : ev x = .int k i) (hy : ev y = .int k j) : (execOp ev (Oper.mk d (.binOp .gtr t x y t') ty p af g)).run P w = .ok (.value (.bool (decide (j < i)))) w := o_gtr hx hy rfl
theorem o_geI {t t' : TypeId} {x y : Operand} {k : IntKind} {i j : Int} (hx : ev x = .int k i) (hy : ev y = .int k j) : (execOp ev (Oper.mk d (.binOp .geq t x y t') ty p af g)).run P w = .ok (.value (.bool (decide (j ≤ i)))) w := o_geq hx hy rfl
theorem o_notI {t : TypeId} {x : Operand} {b : Bool} (hx : ev x = .bool b) : (execOp ev (Oper.mk d (.unOp .not t x) ty p af g)).run P w = .ok (.value (.bool (!b))) w := o_not hx rfl
theorem o_quo {t t' : TypeId} {x y : Operand} {i j r : Nat} (hx : ev x = .int .i64 (i : Int)) (hy : ev y = .int .i64 (j : Int)) (hj : 0 < j) (hi : i < 9223372036854775808) (hr : i / j = r) : (execOp ev (Oper.mk d (.binOp .quo t x y t') ty p af g)).run P w = .ok (.value (.int .i64 (r : Int))) w := by
  subst hr
  have h0 : ¬ (j : Int) = 0 := by omega
  have h1 : (i : Int).tdiv (j : Int) = ((i / j : Nat) : Int) := by rw [Int.tdiv_eq_ediv_of_nonneg (by omega)]; rfl
  have hle : i / j ≤ i := Nat.div_le_self _ _
  have h2 : IntKind.i64.wrap ((i / j : Nat) : Int) = ((i / j : Nat) : Int) := by
    generalize i / j = q at *
    exact IntWalk.i64_in _ (by omega)
  unfold execOp
  simp only [hx, hy, eqGuard, binOp, Op.intDiv, if_neg h0, h1, h2, Sem.run_bind]
  rfl
theorem o_rem {t t' : TypeId} {x y : Operand} {i j r : Nat} (hx : ev x = .int .i64 (i : Int)) (hy : ev y = .int .i64 (j : Int)) (hj : 0 < j) (hr : i % j = r) : (execOp ev (Oper.mk d (.binOp .rem t x y t') ty p af g)).run P w = .ok (.value (.int .i64 (r : Int))) w := by
  subst hr
  have h0 : ¬ (j : Int) = 0 := by omega
  have h1 : (i : Int).tmod (j : Int) = ((i % j : Nat) : Int) := by rw [Int.tmod_eq_emod_of_nonneg (by omega)]; rfl
  unfold execOp
  simp only [hx, hy, eqGuard, binOp, Op.intDiv, if_neg h0, h1, Sem.run_bind]
  rfl
theorem o_min {x y : Operand} {ts : Array TypeId} {k : IntKind} {i j r : Int} (hx : ev x = .int k i) (hy : ev y = .int k j) (hr : (if j < i then j else i) = r) : (execOp ev (Oper.mk d (.call (Call.mk (.builtin .min) #[x, y] ts)) ty p af g)).run P w = .ok (.value (.int k r)) w := by
  subst hr
  simp [execOp, resolve, invoke, builtin, Builtin.min_, Builtin.min2, hx, hy, go_sem]
theorem o_max {x y : Operand} {ts : Array TypeId} {k : IntKind} {i j r : Int} (hx : ev x = .int k i) (hy : ev y = .int k j) (hr : (if j > i then j else i) = r) : (execOp ev (Oper.mk d (.call (Call.mk (.builtin .max) #[x, y] ts)) ty p af g)).run P w = .ok (.value (.int k r)) w := by
  subst hr
  simp [execOp, resolve, invoke, builtin, Builtin.max_, Builtin.max2, hx, hy, go_sem]
/-- slicing a slice from its start -/
theorem o_cut {T E : TypeId} {x y : Operand} {a : Option Addr} {n c k s : Nat} (hx : ev x = .slice a n c) (hy : ev y = .int .i64 (k : Int)) (hu : P.underlying T = some (.slice E)) (hs : (P.info? E).map (·.size) = some s) (hk : k ≤ c) : (execOp ev (Oper.mk d (.slice T x none (some y) none) ty p af g)).run P w = .ok (.value (.slice a k c)) w := by
  have h1 := size_of hs w
  have hi' : (0 : Int) ≤ (k : Int) ∧ (k : Int) ≤ (c : Int) := by omega
  have h0 : (0 : Nat) ≤ k := by omega
  unfold execOp
  simp only [hx, hy, Option.map_none, Option.map_some, Instr.sliceAt, Instr.slice, Instr.sliceBounds, Instr.sliceBound, asIntOf, Sem.run_bind, run_underlying hu w, Sem.run_pure, Result.andThen_ok, h1, if_pos hi', Int.toNat_natCast]
  cases c with
  | zero => cases a <;> simp [add_n, go_sem] <;> rfl
  | succ c => cases a <;> simp [go_sem]
end
theorem nmin_int (a b : Nat) : (if (b : Int) < (a : Int) then (b : Int) else (a : Int)) = ((min a b : Nat) : Int) := by split <;> omega
theorem nmax_int (a b : Nat) : (if (b : Int) > (a : Int) then (b : Int) else (a : Int)) = ((max a b : Nat) : Int) := by split <;> omega
theorem ld_one {P : Program} {t : TypeId} {w : World} {p : Addr} {v : Value} (hA : (isAgg t).run P w = .ok false w) (hc : w.cell? p = some v) : (loadVar t p).run P w = .ok v w := by
  simp [loadVar, hA, hc, go_sem]
/-- an append to a slice of the call's own -/
theorem s_app {P : Program} {ops : Array Oper} {Q : Exit → Act → World → Prop} {rest : List Oper} {a : Act} {w : World} {dd N : Nat} {s x : Operand} {t ty : TypeId} {p : String} {af : Array Edge} {g : Option (Nat × Bool)} {base : Nat} {e : TypeId} {i : TypeInfo} {z : Value} {size bytes : Nat}
    (ok : Ok N a) (hw : Region.wanted (Oper.mk (some dd) (.call { callee := .builtin .append, args := #[s, x], argTypes := #[t, t] }) ty p af g) (yielded ops a.tmps) = true) (hN : Nat.blt dd N = true)
    (ht : P.underlying t = some (.slice e)) (hi : P.info? e = some i) (hz : i.zero = some z) (hsize : i.size = size) (hby : i.bytes = bytes) (hzs : z.cells.size = size) (hsz : 0 < size)
    {v : Value} {n : Nat} {xs : List Value} (hs : a.eval s = v) (hown : w.ownsRow base e size v n xs)
    {ad : Addr} {m c : Nat} {news : List Value} (hx : a.eval x = .slice (some ad) m c) (hl : news.length = m * size) (hnews : ∀ j u, news[j]? = some u → w.cell? (ad.add j) = some u) (h1 : ∀ u ∈ news, u.oneCell' = true)
    (h63 : n + m ≤ maxLen) (hbytes : (n + m) * bytes ≤ 140737488355328) (hbase : base ≤ w.heap.size)
    (h : ∀ a' w' v', w'.ownsRow base e size v' (n + m) (xs ++ news) → w.grownBy w' v.ownBlock → Nx N a a' dd v' → wpList P ops Q rest a' w') :
    wpList P ops Q (Oper.mk (some dd) (.call { callee := .builtin .append, args := #[s, x], argTypes := #[t, t] }) ty p af g :: rest) a w := by
  refine s_step hw ?_
  exact wp_append_own w s x t rfl base e i z size bytes ht hi hz hsize hby hzs hsz v n xs hs hown ad m c news hx hl hnews h1 h63 hbytes hbase fun v' w' h2 h3 _ => h _ w' v' h2 h3 (Nx.put ok hN v')
theorem info_of {P : Program} {e : TypeId} {z : Value} {size bytes : Nat} (h : (P.info? e).map (fun i => (i.zero, i.size, i.bytes)) = some (some z, size, bytes)) : ∃ i, P.info? e = some i ∧ i.zero = some z ∧ i.size = size ∧ i.bytes = bytes := by
  cases hq : P.info? e with
  | none => simp [hq] at h
  | some i => simp [hq] at h; exact ⟨i, rfl, h.1, h.2.1, h.2.2⟩
theorem ow_lt {w : World} {base : Nat} {e : TypeId} {s n : Nat} {v : Value} {xs : List Value} (h : w.ownsRow base e s v n xs) : ∀ k, v.ownBlock = some k → base ≤ k := by
  intro k hk
  obtain ⟨-, ⟨rfl, -⟩ | ⟨g, cap, cur, rfl, hb, -⟩⟩ := h
  · cases hk
  · cases hk; exact hb
theorem ow_form {w : World} {base : Nat} {e : TypeId} {s n : Nat} {v : Value} {xs : List Value} (h : w.ownsRow base e s v n xs) : ∃ a c, v = .slice a n c ∧ n ≤ c := by
  obtain ⟨-, ⟨rfl, rfl⟩ | ⟨g, cap, cur, rfl, hb, -, hn, -⟩⟩ := h
  · exact ⟨none, 0, rfl, Nat.le_refl _⟩
  · exact ⟨_, cap, rfl, hn⟩
theorem Bk.grown {w w' : World} {b base : Nat} {cs : Array Value} {t : TypeId} {r : Option Nat} (h : Bk w b cs t) (g : w.grownBy w' r) (hr : ∀ k, r = some k → base ≤ k) (hb : b < base) : Bk w' b cs t :=
  (g.block b h.lt (fun e => by have := hr b e.symm; omega)).trans h
theorem ow_gr {w w' : World} {base : Nat} {e : TypeId} {s n : Nat} {v : Value} {xs : List Value} (h : w.ownsRow base e s v n xs) (g : Gr w w') : w'.ownsRow base e s v n xs := by
  obtain ⟨h1, h2 | ⟨b, cap, cur, e, h3, hg, h4⟩⟩ := h
  · exact ⟨h1, .inl h2⟩
  · exact ⟨h1, .inr ⟨b, cap, cur, e, h3, (Below.block g b (Array.getElem?_eq_some_iff.1 hg).1).trans hg, h4⟩⟩
theorem ow_upd {w w' : World} {base b : Nat} {e : TypeId} {s n : Nat} {v : Value} {xs : List Value} (h : w.ownsRow base e s v n xs) (u : Upd w w' b) (hb : b < base) : w'.ownsRow base e s v n xs := by
  obtain ⟨h1, h2 | ⟨g, cap, cur, e, h3, hg, h4⟩⟩ := h
  · exact ⟨h1, .inl h2⟩
  · exact ⟨h1, .inr ⟨g, cap, cur, e, h3, (u.oth g (by omega)).trans hg, h4⟩⟩
theorem ow_upd_ne {w w' : World} {base b : Nat} {e : TypeId} {s n : Nat} {v : Value} {xs : List Value} (h : w.ownsRow base e s v n xs) (u : Upd w w' b) (hb : ∀ k, v.ownBlock = some k → k < b) : w'.ownsRow base e s v n xs := by
  obtain ⟨h1, h2 | ⟨g, cap, cur, rfl, h3, hg, h4⟩⟩ := h
  · exact ⟨h1, .inl h2⟩
  · exact ⟨h1, .inr ⟨g, cap, cur, rfl, h3, (u.oth g (Nat.ne_of_lt (hb g rfl))).trans hg, h4⟩⟩
theorem ow_in {w : World} {base : Nat} {e : TypeId} {s n : Nat} {v : Value} {xs : List Value} (h : w.ownsRow base e s v n xs) : ∀ k, v.ownBlock = some k → k < w.heap.size := by
  intro k hk
  obtain ⟨-, ⟨rfl, -⟩ | ⟨g, cap, cur, rfl, -, hg, -⟩⟩ := h
  · cases hk
  · cases hk; exact (Array.getElem?_eq_some_iff.1 hg).1
theorem Bk.grown_ne {w w' : World} {b : Nat} {cs : Array Value} {t : TypeId} {r : Option Nat} (h : Bk w b cs t) (g : w.grownBy w' r) (hr : ∀ k, r = some k → k < b) : Bk w' b cs t :=
  (g.block b h.lt (fun e => Nat.lt_irrefl _ (hr b e.symm))).trans h
/-- the address of a row of one's own, and its cells -/
theorem ow_addr {w : World} {base : Nat} {e : TypeId} {s n c : Nat} {a : Option Addr} {xs : List Value} (h : w.ownsRow base e s (.slice a n c) n xs) (hn : 0 < n) : ∃ g, a = some ⟨g, 0, none⟩ ∧ base ≤ g ∧ ∀ j u, xs[j]? = some u → w.cell? ⟨g, j, none⟩ = some u := by
  obtain ⟨h1, ⟨-, h0⟩ | ⟨g, cap, cur, hv, h3, hg, h4, h5, h6, h7⟩⟩ := h
  · omega
  · injection hv with e1 e2 e3
    refine ⟨g, e1, h3, fun j u hj => ?_⟩
    have hj' : j < n * s := by rw [← h1]; exact (List.getElem?_eq_some_iff.1 hj).1
    have e4 : (cur.toList.take (n * s))[j]? = xs[j]? := by rw [h7]
    rw [List.getElem?_take_of_lt hj', hj] at e4
    simp only [World.cell?, hg]
    simpa using e4
/-- a row of one's own, cut -/
theorem ow_cut {w : World} {base : Nat} {e : TypeId} {s n c k : Nat} {a : Option Addr} {xs : List Value} (h : w.ownsRow base e s (.slice a n c) n xs) (hk : k ≤ n) : w.ownsRow base e s (.slice a k c) k (xs.take (k * s)) := by
  have hks : k * s ≤ n * s := Nat.mul_le_mul_right _ hk
  obtain ⟨h1, ⟨hv, h0⟩ | ⟨g, cap, cur, hv, h3, hg, h4, h5, h6, h7⟩⟩ := h
  · injection hv with e1 e2 e3
    subst e1 e3
    have : k = 0 := by omega
    subst this
    exact ⟨by simp, .inl ⟨rfl, rfl⟩⟩
  · injection hv with e1 e2 e3
    subst e1 e3
    refine ⟨by rw [List.length_take, h1]; omega, .inr ⟨g, c, cur, rfl, h3, hg, by omega, h5, h6, ?_⟩⟩
    rw [← h7, List.take_take, Nat.min_eq_left hks]
/-- two rows of elements of different types lie apart -/
theorem ow_grown {w w' : World} {base base' : Nat} {e e' : TypeId} {s s' n n' : Nat} {v v' : Value} {xs xs' : List Value} (h : w.ownsRow base e s v n xs) (h' : w.ownsRow base' e' s' v' n' xs') (g : w.grownBy w' v'.ownBlock) (he : Nat.beq e e' = false) : w'.ownsRow base e s v n xs := by
  obtain ⟨h1, h2 | ⟨b, cap, cur, rfl, h3, hg, h4⟩⟩ := h
  · exact ⟨h1, .inl h2⟩
  · refine ⟨h1, .inr ⟨b, cap, cur, rfl, h3, (g.block b (Array.getElem?_eq_some_iff.1 hg).1 ?_).trans hg, h4⟩⟩
    intro q
    obtain ⟨-, ⟨rfl, -⟩ | ⟨b', cap', cur', rfl, -, hg', -⟩⟩ := h'
    · cases q
    · cases q
      rw [hg] at hg'
      injection hg' with q1
      injection q1 with _ q3
      exact Nat.ne_of_beq_eq_false he q3
/-! control -/
section
variable {P : Program} {Q : Exit → Act → World → Prop} {K : Act → World → Prop} {a : Act} {w : World} {i j : Nat}
theorem th_n (h : K a w) : Exit.then K Q .normal a w := h
theorem th_x (h : Q (.exit i) a w) : Exit.then K Q (.exit i) a w := h
theorem th_r (h : Q .ret a w) : Exit.then K Q .ret a w := h
theorem ib_n (h : Q .normal a w) : Exit.inBlock i Q .normal a w := h
theorem ib_x (h : Q .normal a w) : Exit.inBlock i Q (.exit i) a w := by unfold Exit.inBlock; simpa using h
theorem ib_o (hn : Nat.beq j i = false) (h : Q (.exit j) a w) : Exit.inBlock i Q (.exit j) a w := by
  have := Nat.ne_of_beq_eq_false hn
  unfold Exit.inBlock
  simpa [this] using h
theorem ib_r (h : Q .ret a w) : Exit.inBlock i Q .ret a w := h
theorem enter {f : FuncId} {fn : Func} {c : Code} {args : Array Value} {R : Ending → World → Prop} {N : Nat} (hf : P.funcs[f]? = some fn) (hb : fn.body = some c) (hN : fn.ntmps = N) (hA : Nat.ble args.size N = true)
    (h : ∀ a, Ok N a → (∀ t v, args[t]? = some v → a.eval (.tmp t) = v) → c.wp P (bodyPost P fn R) a w) : Calls P f args w R := by
  refine calls_of_wp hf hb (h _ ⟨?_, rfl⟩ ?_)
  · have := Nat.le_of_ble_eq_true hA
    simp only [Array.size_append, Array.size_replicate]
    omega
  · intro t v ht
    have hlt : t < args.size := (Array.getElem?_eq_some_iff.1 ht).1
    simp only [Act.eval, Array.getD_eq_getD_getElem?]
    rw [Array.getElem?_append_left hlt, ht]
    rfl
/-- the values of the results -/
def RV (P : Program) (a : Act) (w : World) (r : ResultVar) (v : Value) : Prop := match r with
  | .tmp t => a.eval (.tmp t) = v
  | .cell p t => ∃ b k, a.eval (.tmp p) = .pointer (some ⟨b, k, none⟩) ∧ (loadVar t ⟨b, k, none⟩).run P w = .ok v w
theorem ret1 {fn : Func} {R : Ending → World → Prop} {N : Nat} {r : ResultVar} {v : Value} (ok : Ok N a) (hr : fn.results = #[r]) (hv : RV P a w r v) (h : R (.returned v) w) : bodyPost P fn R .ret a w := by
  refine ⟨ok.dfr, v, ?_, h⟩
  cases r with
  | tmp t =>
    have h1 : a.tmps[t]?.getD undef = v := by simpa [RV, Act.eval] using hv
    simp [results, hr, h1]
  | cell p t =>
    obtain ⟨b, k, h1, h2⟩ := hv
    have h1' : a.tmps[p]?.getD undef = .pointer (some ⟨b, k, none⟩) := by simpa [Act.eval] using h1
    simp [results, hr, h1', asAddr, h2]
theorem ret2 {fn : Func} {R : Ending → World → Prop} {N : Nat} {r r' : ResultVar} {v v' : Value} (ok : Ok N a) (hr : fn.results = #[r, r']) (hv : RV P a w r v) (hv' : RV P a w r' v') (h : R (.returned (.tuple #[v, v'])) w) : bodyPost P fn R .ret a w := by
  refine ⟨ok.dfr, .tuple #[v, v'], ?_, h⟩
  cases r with
  | tmp t =>
    have h1 : a.tmps[t]?.getD undef = v := by simpa [RV, Act.eval] using hv
    cases r' with
    | tmp t' =>
      have h2 : a.tmps[t']?.getD undef = v' := by simpa [RV, Act.eval] using hv'
      simp [results, hr, h1, h2]
    | cell p t' =>
      obtain ⟨b, k, h2, h3⟩ := hv'
      have h2' : a.tmps[p]?.getD undef = .pointer (some ⟨b, k, none⟩) := by simpa [Act.eval] using h2
      simp [results, hr, h1, h2', asAddr, h3]
  | cell p t =>
    obtain ⟨b, k, h0, h1⟩ := hv
    have h0' : a.tmps[p]?.getD undef = .pointer (some ⟨b, k, none⟩) := by simpa [Act.eval] using h0
    cases r' with
    | tmp t' =>
      have h2 : a.tmps[t']?.getD undef = v' := by simpa [RV, Act.eval] using hv'
      simp [results, hr, h0', asAddr, h1, h2]
    | cell p' t' =>
      obtain ⟨b, k, h2, h3⟩ := hv'
      have h2' : a.tmps[p']?.getD undef = .pointer (some ⟨b, k, none⟩) := by simpa [Act.eval] using h2
      simp [results, hr, h0', asAddr, h1, h2', h3]
end
end Gx
