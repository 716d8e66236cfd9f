/- Joined: GxC, ShE, ShF, ShG, KmD, KmE, ShH, ShI, ShJ, ShK, OpenA, OpenK, KmF, GxF, KmV, ShL, XOf. -/
import Derived.Test.YtoencnbpjjkjnaaSg3
import Derived.Laws.IdiomCopy
import Derived.Lib.AppendZerosOnto
import Derived.Lib.Overlaps
import Derived.Test.YtoencnbpjjkjnaaProg
import Derived.Deep.SlicePairs
import Derived.ProofKit
import Derived.KernelRfl
/- Copies of cells into rows of one's own; rows that grow by zeros. -/
set_option linter.unusedVariables false
set_option linter.unusedSimpArgs false
namespace Gx
open Go Go.RowKit Rm
section
variable {E : Type} {enc : E → List Value} {s : Nat}
theorem run_copyS (P : Program) (w : World) (dT sT ty elem : TypeId) (b o dLen dCap : Nat) (a : Addr) (sLen sCap m : Nat) (cs : List Value)
    (hu : P.underlying dT = some (.slice elem)) (hs : (P.info? elem).map (·.size) = some s) (hm : Nat.min sLen dLen = m) (hn : cs.length = m * s)
    (hsrc : ∀ j v, cs[j]? = some v → w.cell? (a.add j) = some v) (hc : ∀ j, j < cs.length → (w.cell? ⟨b, o + j, none⟩).isSome = true) (hf : ∀ j, j < cs.length → w.frozen? ⟨b, o + j, none⟩ = false) (h1 : ∀ v ∈ cs, v.oneCell' = true) :
    (Builtin.copy_ #[dT, sT] ty #[.slice (some ⟨b, o, none⟩) dLen dCap, .slice (some a) sLen sCap]).run P w = .ok (goInt m) (w.setCells b o cs) := by
  have hl := run_loadCells_list (P := P) w a cs hsrc
  have hst := run_storeCells_cells (P := P) b o cs 0 w (by simpa using hc) (by simpa using hf) h1
  cases hq : P.info? elem with
  | none => simp [hq] at hs
  | some i =>
    have hi : i.size = s := by simpa [hq] using hs
    simp [Builtin.copy_, run_underlying hu, Builtin.lenOf, Builtin.firstCells, Go.sizeOf, typeInfo, hq, hi, hm, ← hn, hl, hst]
theorem o_copyS {P : Program} {ev : Operand → Value} {d : Option Tmp} {ty : TypeId} {p : String} {af : Array Edge} {g : Option (Nat × Bool)} {w : World} {x y : Operand} {T T' e : TypeId} {b o dLen dCap sLen sCap m : Nat} {ad : Addr} {cs : List Value}
    (hx : ev x = .slice (some ⟨b, o, none⟩) dLen dCap) (hy : ev y = .slice (some ad) sLen sCap) (hu : P.underlying T = some (.slice e)) (hs : (P.info? e).map (·.size) = some s) (hm : Nat.min sLen dLen = m) (hn : cs.length = m * s)
    (hsrc : ∀ j v, cs[j]? = some v → w.cell? (ad.add j) = some v) (hc : ∀ j, j < cs.length → (w.cell? ⟨b, o + j, none⟩).isSome = true) (hf : ∀ j, j < cs.length → w.frozen? ⟨b, o + j, none⟩ = false) (h1 : ∀ v ∈ cs, v.oneCell' = true) :
    (execOp ev (Oper.mk d (.call (Call.mk (.builtin .copy) #[x, y] #[T, T'])) ty p af g)).run P w = .ok (.value (.int .i64 (m : Int))) (w.setCells b o cs) := by
  have h := run_copyS P w T T' ty e b o dLen dCap ad sLen sCap m cs hu hs hm hn hsrc hc hf h1
  unfold execOp
  simp only [resolve, invoke, builtin, hx, hy, Sem.run_bind, Sem.run_pure, Result.andThen_ok, List.map_toArray, List.map_cons, List.map_nil, h]
  rfl
/-- a copy into a row of one's own -/
theorem s_cp {P : Program} {ops : Array Oper} {Q : Exit → Act → World → Prop} {rest : List Oper} {a : Act} {w : World} {dd N : Nat} {x y : Operand} {T T' ty e : TypeId} {p : String} {af : Array Edge} {gd : Option (Nat × Bool)} {base g n c o dLen dCap sLen sCap m : Nat} {ad : Addr} {xs cs : List Value}
    (ok : Ok N a) (hw : Region.wanted (Oper.mk (some dd) (.call (Call.mk (.builtin .copy) #[x, y] #[T, T'])) ty p af gd) (yielded ops a.tmps) = true) (hN : Nat.blt dd N = true)
    (hx : a.eval x = .slice (some ⟨g, o, none⟩) dLen dCap) (hy : a.eval y = .slice (some ad) sLen sCap) (hu : P.underlying T = some (.slice e)) (hs : (P.info? e).map (·.size) = some s) (hm : Nat.min sLen dLen = m) (hn : cs.length = m * s)
    (hown : w.ownsRow base e s (.slice (some ⟨g, 0, none⟩) n c) n xs) (hfit : o + cs.length ≤ n * s) (hsrc : ∀ j v, cs[j]? = some v → w.cell? (ad.add j) = some v) (h1 : ∀ v ∈ cs, v.oneCell' = true)
    (h : ∀ a' w', w'.ownsRow base e s (.slice (some ⟨g, 0, none⟩) n c) n (splL xs o cs) → w.grownBy w' (some g) → Nx N a a' dd (.int .i64 (m : Int)) → wpList P ops Q rest a' w') :
    wpList P ops Q (Oper.mk (some dd) (.call (Call.mk (.builtin .copy) #[x, y] #[T, T'])) ty p af gd :: rest) a w := by
  obtain ⟨k1, k2, k3⟩ := ow_put hown hfit
  exact sv (d := dd) ok rfl hw hN (o_copyS hx hy hu hs hm hn hsrc k2 k3 h1) fun a' n' => h a' _ k1 (setCells_upd _ _ _ _).grown n'
theorem t_cp {P : Program} {ops : Array Oper} {Q : Exit → Act → World → Prop} {a : Act} {w : World} {i fuel dd N : Nat} {L : Array Bool} {x y : Operand} {T T' ty e : TypeId} {p : String} {af : Array Edge} {gd : Option (Nat × Bool)} {base g n c o dLen dCap sLen sCap m : Nat} {ad : Addr} {xs cs : List Value}
    (hr : Region.ready .any ops L = [i]) (ho : ops[i]? = some (Oper.mk (some dd) (.call (Call.mk (.builtin .copy) #[x, y] #[T, T'])) ty p af gd)) (ok : Ok N a) (hw : Region.wanted (Oper.mk (some dd) (.call (Call.mk (.builtin .copy) #[x, y] #[T, T'])) ty p af gd) (yielded ops a.tmps) = true) (hN : Nat.blt dd N = true)
    (hx : a.eval x = .slice (some ⟨g, o, none⟩) dLen dCap) (hy : a.eval y = .slice (some ad) sLen sCap) (hu : P.underlying T = some (.slice e)) (hs : (P.info? e).map (·.size) = some s) (hm : Nat.min sLen dLen = m) (hn : cs.length = m * s)
    (hown : w.ownsRow base e s (.slice (some ⟨g, 0, none⟩) n c) n xs) (hfit : o + cs.length ≤ n * s) (hsrc : ∀ j v, cs[j]? = some v → w.cell? (ad.add j) = some v) (h1 : ∀ v ∈ cs, v.oneCell' = true)
    (h : ∀ a' w', w'.ownsRow base e s (.slice (some ⟨g, 0, none⟩) n c) n (splL xs o cs) → w.grownBy w' (some g) → Nx N a a' dd (.int .i64 (m : Int)) → wpAny P .any ops Q fuel (L.setIfInBounds i true) a' w') :
    wpAny P .any ops Q (fuel + 1) L a w := by
  obtain ⟨k1, k2, k3⟩ := ow_put hown hfit
  exact t_val (d := dd) hr ho ok rfl hw hN (o_copyS hx hy hu hs hm hn hsrc k2 k3 h1) fun a' n' => h a' _ k1 (setCells_upd _ _ _ _).grown n'
theorem o_capS {P : Program} {ev : Operand → Value} {d : Option Tmp} {ty : TypeId} {p : String} {af : Array Edge} {g : Option (Nat × Bool)} {w : World} {x : Operand} {T E : TypeId} {a : Option Addr} {n c : Nat} (hx : ev x = .slice a n c) (hu : P.underlying T = some (.slice E)) : (execOp ev (Oper.mk d (.call (Call.mk (.builtin .cap) #[x] #[T])) ty p af g)).run P w = .ok (.value (.int .i64 (c : Int))) w := by
  simp [execOp, resolve, invoke, builtin, Builtin.cap_, hx, run_underlying hu, goInt, go_sem]
/-- a row with room, longer by one element -/
theorem ow_room {w : World} {base g n c : Nat} {e : TypeId} {xs : List Value} (h : w.ownsRow base e s (.slice (some ⟨g, 0, none⟩) n c) n xs) (hc : n + 1 ≤ c) : ∃ J : List Value, J.length = s ∧ w.ownsRow base e s (.slice (some ⟨g, 0, none⟩) (n + 1) c) (n + 1) (xs ++ J) := by
  obtain ⟨h1, ⟨hv, -⟩ | ⟨g', cap, cur, hv, h3, hg, h4, h5, h6, h7⟩⟩ := h
  · cases hv
  · injection hv with e1 e2 e3
    injection e1 with e1
    injection e1 with e1
    subst e1 e3
    have hle : (n + 1) * s ≤ c * s := Nat.mul_le_mul_right _ hc
    have e4 : (n + 1) * s = n * s + s := by rw [Nat.add_mul]; omega
    have hJ : ((cur.toList.drop (n * s)).take s).length = s := by rw [List.length_take, List.length_drop, Array.length_toList, h6]; omega
    refine ⟨(cur.toList.drop (n * s)).take s, hJ, by rw [List.length_append, h1, hJ, e4], .inr ⟨g, c, cur, rfl, h3, hg, hc, h5, h6, ?_⟩⟩
    rw [e4, List.take_add, h7]
/-- cells that are read where a row begins -/
def SrcAt (w : World) (g : Nat) (xs : List Value) : Prop := g < w.heap.size ∧ ∀ j u, xs[j]? = some u → w.cell? ⟨g, j, none⟩ = some u
theorem SrcAt.gr {w w' : World} {g : Nat} {xs : List Value} (h : SrcAt w g xs) (k : Gr w w') : SrcAt w' g xs := ⟨Nat.lt_of_lt_of_le h.1 k.size, fun j u hu => (k.cells.1 g _ h.1).trans (h.2 j u hu)⟩
theorem SrcAt.ne {w w' : World} {g : Nat} {xs : List Value} {r : Option Nat} (h : SrcAt w g xs) (k : w.grownBy w' r) (hr : r ≠ some g) : SrcAt w' g xs := ⟨Nat.lt_of_lt_of_le h.1 k.size, fun j u hu => by
  have e := k.block g h.1 (fun q => hr q.symm)
  have := h.2 j u hu
  simp only [World.cell?] at this ⊢
  rw [e]
  exact this⟩
theorem SrcAt.own {w : World} {base g n c : Nat} {e : TypeId} {xs : List Value} (h : w.ownsRow base e s (.slice (some ⟨g, 0, none⟩) n c) n xs) : SrcAt w g xs := by
  obtain ⟨h1, ⟨hv, -⟩ | ⟨g', cap, cur, hv, h3, hg, h4, h5, h6, h7⟩⟩ := h
  · cases hv
  · injection hv with e1 e2 e3
    injection e1 with e1
    injection e1 with e1
    subst e1 e3
    refine ⟨(Array.getElem?_eq_some_iff.1 hg).1, fun j u hu => ?_⟩
    have hlt : j < n * s := by rw [← h1]; exact (List.getElem?_eq_some_iff.1 hu).1
    rw [← h7, List.getElem?_take_of_lt hlt] at hu
    simp only [World.cell?, hg]
    simpa using hu
theorem SrcAt.part {w : World} {g o : Nat} {xs cs : List Value} (h : SrcAt w g xs) (hc : ∀ j u, cs[j]? = some u → xs[o + j]? = some u) : ∀ j v, cs[j]? = some v → w.cell? ((⟨g, o, none⟩ : Addr).add j) = some v := fun j v hv => by
  rw [add_n]
  exact h.2 _ _ (hc j v hv)
theorem gb_new {w w1 w2 : World} {r : Option Nat} {b : Nat} (h : w.grownBy w1 r) (k : w1.grownBy w2 (some b)) (hb : w.heap.size ≤ b) : w.grownBy w2 r :=
  ⟨k.os.trans h.os, k.tape.trans h.tape, k.output.trans h.output, Nat.le_trans h.size k.size, fun j hj hr => (k.block j (Nat.lt_of_lt_of_le hj h.size) (fun q => by cases q; omega)).trans (h.block j hj hr)⟩
/-- a row without room: the first i elements and zeros, in new memory -/
theorem s_apz {P : Program} {ops : Array Oper} {Q : Exit → Act → World → Prop} {rest : List Oper} {a : Act} {w : World} {dd N : Nat} {x y : Operand} {t tn ty e : TypeId} {p : String} {af : Array Edge} {gd : Option (Nat × Bool)} {base g n c i k bytes : Nat} {z : Value} {ie : TypeInfo} {kn : IntKind} {xs : List Value}
    (ok : Ok N a) (hw : Region.wanted (Oper.mk (some dd) (.call (Call.mk (.builtin .append) #[x, y] #[t, tn])) ty p af gd) (yielded ops a.tmps) = true) (hN : Nat.blt dd N = true)
    (hx : a.eval x = .slice (some ⟨g, 0, none⟩) i c) (hy : a.eval y = .int .i64 (k : Int)) (ht : P.underlying t = some (.slice e)) (htn : P.underlying tn = some (.int kn)) (hi : P.info? e = some ie) (hz : ie.zero = some z) (hsz : ie.size = s) (hby : ie.bytes = bytes) (hzs : z.cells.size = s) (hs0 : 0 < s)
    (hsrc : SrcAt w g xs) (hxl : xs.length = n * s) (hin : i ≤ n) (hk : 0 < k) (hg : c < i + k) (hmax : i + k ≤ 1000) (hbytes : bytes ≤ 1000000) (hbase : base ≤ w.heap.size)
    (h : ∀ a' w' b cap Z, Gr w w' → b = w.heap.size → w'.ownsRow base e s (.slice (some ⟨b, 0, none⟩) (i + k) cap) (i + k) (xs.take (i * s) ++ Z) → Z.length = k * s → Nx N a a' dd (.slice (some ⟨b, 0, none⟩) (i + k) cap) → wpList P ops Q rest a' w') :
    wpList P ops Q (Oper.mk (some dd) (.call (Call.mk (.builtin .append) #[x, y] #[t, tn])) ty p af gd :: rest) a w := by
  have hle : i * s ≤ n * s := Nat.mul_le_mul_right _ hin
  have hol : (xs.take (i * s)).length = i * s := by rw [List.length_take, hxl]; omega
  have hold : (Builtin.firstCells ie.size i (.slice (some ⟨g, 0, none⟩) i c)).run P w.drew = .ok (xs.take (i * s)).toArray w.drew := by
    have h0 := run_loadCells_list (P := P) w.drew ⟨g, 0, none⟩ (xs.take (i * s)) (fun j u hu => by
      rw [add_n, Nat.zero_add]
      have hj : j < i * s := by rw [← hol]; exact (List.getElem?_eq_some_iff.1 hu).1
      rw [List.getElem?_take_of_lt hj] at hu
      exact hsrc.2 j u hu)
    rw [hol] at h0
    simp only [Builtin.firstCells, hsz]
    exact h0
  have hn1 : Builtin.nextslicecap (i + k) c * ie.bytes ≤ 281474976710656 := growslice_fits hg (by
    rw [hby]
    calc _ ≤ 1000 * 1000000 := Nat.mul_le_mul hmax hbytes
      _ ≤ _ := by decide)
  have hr := Lib.run_append_grow_zeros (P := P) w t tn ty e ie z .i64 kn ht htn hi hz (some ⟨g, 0, none⟩) i c (xs.take (i * s)) hold k hk (by rw [hsz]; exact hs0) hg (by omega) (by
    rw [hby]
    calc _ ≤ 1000 * 1000000 := Nat.mul_le_mul (by omega) hbytes
      _ ≤ _ := by decide) hn1
  have hge := grownCap_ge w (i + k) c e
  have hcm : grownCap w (i + k) c e ≤ maxLen := grownCap_le_maxLen w (i + k) c e (by simp only [maxLen]; omega)
  have hzl : (Builtin.zeroCells z.cells k).toList.length = k * s := by simp [Builtin.zeroCells, hzs]
  refine sv (d := dd) ok rfl hw hN (v := .slice (some ⟨w.heap.size, 0, none⟩) (i + k) (grownCap w (i + k) c e)) (w' := w.drew.alloc (.cells ((xs.take (i * s)).toArray ++ Builtin.zeroCells z.cells k ++ Builtin.zeroCells z.cells (grownCap w (i + k) c e - (i + k))) e)) ?_ (fun a' n' => h a' _ w.heap.size _ (Builtin.zeroCells z.cells k).toList ((Gr.refl w).drew.alloc _) rfl ?_ hzl n')
  · unfold execOp
    simp only [resolve, invoke, builtin, hx, hy, Sem.run_bind, Sem.run_pure, Result.andThen_ok, List.map_toArray, List.map_cons, List.map_nil, hr]
  · have es : (i + k) * s = i * s + k * s := Nat.add_mul ..
    refine ⟨by rw [List.length_append, hol, hzl, es], .inr ⟨w.heap.size, grownCap w (i + k) c e, (xs.take (i * s)).toArray ++ Builtin.zeroCells z.cells k ++ Builtin.zeroCells z.cells (grownCap w (i + k) c e - (i + k)), rfl, hbase, ?_, hge, hcm, ?_, ?_⟩⟩
    · show (w.heap.push _)[w.heap.size]? = _
      simp
    · have hz2 : (Builtin.zeroCells z.cells (grownCap w (i + k) c e - (i + k))).size = (grownCap w (i + k) c e - (i + k)) * s := by simp [Builtin.zeroCells, hzs]
      have hz3 : (Builtin.zeroCells z.cells k).size = k * s := by simp [Builtin.zeroCells, hzs]
      rw [Array.size_append, Array.size_append, List.size_toArray, hol, hz2, hz3, ← es, ← Nat.add_mul]
      congr 1
      omega
    · rw [Array.toList_append, Array.toList_append, List.toList_toArray, es, List.take_append_of_le_length (by rw [List.length_append, hol, hzl]; omega), List.take_of_length_le (by rw [List.length_append, hol, hzl]; omega)]
/-- the cells behind an insertion -/
theorem ins_room (A B J y : List Value) {o p : Nat} (ho : o = A.length) (hp : p = A.length + y.length) (hJ : J.length = y.length) : splL (splL (A ++ B ++ J) p B) o y = A ++ y ++ B := by
  subst ho hp
  have h1 : splL (A ++ B ++ J) (A.length + y.length) B = (A ++ B ++ J).take (A.length + y.length) ++ B := by
    rw [splL_eq _ _ _ (by simp; omega), List.drop_eq_nil_of_le (by simp; omega), List.append_nil]
  have hl : ((A ++ B ++ J).take (A.length + y.length)).length = A.length + y.length := by simp; omega
  rw [h1, splL_eq _ _ _ (by rw [List.length_append, hl]; omega)]
  have h2 : ((A ++ B ++ J).take (A.length + y.length) ++ B).take A.length = A := by
    rw [List.take_append_of_le_length (by rw [hl]; omega), List.take_take, Nat.min_eq_left (by omega), List.append_assoc, List.take_append_of_le_length (Nat.le_refl _), List.take_of_length_le (Nat.le_refl _)]
  have h3 : ((A ++ B ++ J).take (A.length + y.length) ++ B).drop (A.length + y.length) = B := List.drop_left' hl
  rw [h2, h3]
theorem ins_grow (A B Z y : List Value) {o p : Nat} (ho : o = A.length) (hp : p = A.length + y.length) (hZ : Z.length = y.length + B.length) : splL (splL (A ++ Z) o y) p B = A ++ y ++ B := by
  subst ho hp
  have h1 : splL (A ++ Z) A.length y = A ++ y ++ (A ++ Z).drop (A.length + y.length) := by
    rw [splL_eq _ _ _ (by rw [List.length_append]; omega), List.take_append_of_le_length (Nat.le_refl _), List.take_of_length_le (Nat.le_refl _)]
  have hl : ((A ++ Z).drop (A.length + y.length)).length = B.length := by simp; omega
  rw [h1]
  generalize (A ++ Z).drop (A.length + y.length) = D at hl
  have hy : (A ++ y).length = A.length + y.length := by simp
  have e1 : (A ++ y ++ D).take (A.length + y.length) = A ++ y := List.take_left' hy
  have e2 : (A ++ y ++ D).drop (A.length + y.length + B.length) = [] := List.drop_eq_nil_of_le (by rw [List.length_append, hy, hl]; omega)
  rw [splL_eq _ _ _ (by rw [List.length_append, hy, hl]; omega), e1, e2, List.append_nil]
end
end Gx

/- slices.BinarySearchFunc and slices.Insert at versions. -/
set_option linter.unusedVariables false
set_option linter.unusedSimpArgs false
namespace Gx
open Go Go.RowKit Rm
section
variable {P : Program} {ev : Operand → Value} {d : Option Tmp} {ty : TypeId} {p : String} {af : Array Edge} {g : Option (Nat × Bool)} {w : World}
theorem o_half {t t' : TypeId} {x y : Operand} {n : Nat} (hx : ev x = .int .u64 (n : Int)) (hy : ev y = .int .u64 1) : (execOp ev (Oper.mk d (.binOp .shr t x y t') ty p af g)).run P w = .ok (.value (.int .u64 ((n / 2 : Nat) : Int))) w := by
  have h1 : min (1 : Int).toNat IntKind.u64.bits = 1 := by decide
  have h2 : ((n : Int)).fdiv (2 ^ 1) = ((n / 2 : Nat) : Int) := by
    rw [Int.fdiv_eq_ediv_of_nonneg _ (by decide)]
    omega
  have hb : (binOp .shr t (.int .u64 (n : Int)) (.int .u64 1)).run P w = .ok (.int .u64 ((n / 2 : Nat) : Int)) w := by
    simp only [binOp, Op.shift]
    rw [if_neg (by decide), h1, h2]
    rfl
  unfold execOp
  simp only [hx, hy, eqGuard, Sem.run_bind, Sem.run_pure, Result.andThen_ok]
  simp [hb, go_sem]
theorem o_cut0 {T E : TypeId} {x y : Operand} {s : Nat} (hx : ev x = .slice none 0 0) (hy : ev y = .int .i64 0) (hu : P.underlying T = some (.slice E)) (hs : (P.info? E).map (·.size) = some s) : (execOp ev (Oper.mk d (.slice T x (some y) none none) ty p af g)).run P w = .ok (.value (.slice none 0 0)) w := by
  have h1 := size_of hs w
  unfold execOp
  simp only [hx, hy, Option.map_none, Option.map_some, Instr.sliceAt, Instr.slice, Instr.sliceBounds, Instr.sliceBound, asIntOf, Sem.run_bind, run_underlying hu w, Sem.run_pure, Result.andThen_ok]
  simp [h1, go_sem]
theorem o_ext {f : FuncId} {xs : Array Operand} {vs : Array Value} {ts : Array TypeId} {v : Value} (hc : (callFunc f vs).run P w = .ok (.value v) w) (hev : ev (.func f) = .func (.func f) #[] #[]) (hx : xs.map ev = vs) : (execOp ev (Oper.mk d (.call (Call.mk (.value (.func f)) xs ts)) ty p af g)).run P w = .ok (.value v) w := by
  subst hx
  unfold execOp
  simp only [resolve, invoke, Deferred.ofValue, hev, Sem.run_bind, Sem.run_pure, Result.andThen_ok, List.append_nil, Array.append_empty, hc, Array.map_map]
  first
    | exact hc
    | (simp [hc, go_sem])
end
section
variable {E : Type} {enc : E → List Value} {s : Nat}
theorem flat_drop (he : EncOk enc s) {K : List E} {i : Nat} (hi : i ≤ K.length) (J : List Value) : ∀ j u, (flatE enc (K.drop i))[j]? = some u → (flatE enc K ++ J)[0 + i * s + j]? = some u := fun j u hu => by
  have hA : (flatE enc (K.take i)).length = i * s := by rw [flatE_len he, List.length_take, Nat.min_eq_left hi]
  have e : flatE enc K = flatE enc (K.take i) ++ flatE enc (K.drop i) := by rw [← flatE_app, List.take_append_drop]
  have hj := (List.getElem?_eq_some_iff.1 hu).1
  rw [e, List.append_assoc, Nat.zero_add, List.getElem?_append_right (by omega), hA, Nat.add_sub_cancel_left, List.getElem?_append_left hj]
  exact hu
theorem ins_eq (K : List E) (i : Nat) (y : E) : flatE enc (K.take i ++ y :: K.drop i) = flatE enc (K.take i) ++ enc y ++ flatE enc (K.drop i) := by
  rw [show K.take i ++ y :: K.drop i = (K.take i ++ [y]) ++ K.drop i by simp, flatE_app, flatE_app, flatE_one]
theorem fin_room (he : EncOk enc s) {K : List E} {i : Nat} (hi : i ≤ K.length) (y : E) (J : List Value) (hJ : J.length = s) : splL (splL (flatE enc K ++ J) (0 + (i + 1) * s) (flatE enc (K.drop i))) (0 + i * s) (enc y) = flatE enc (K.take i ++ y :: K.drop i) := by
  have hA : (flatE enc (K.take i)).length = i * s := by rw [flatE_len he, List.length_take, Nat.min_eq_left hi]
  have e : flatE enc K = flatE enc (K.take i) ++ flatE enc (K.drop i) := by rw [← flatE_app, List.take_append_drop]
  rw [ins_eq, e]
  exact ins_room _ _ _ _ (by rw [hA, Nat.zero_add]) (by rw [hA, he.len, Nat.zero_add, Nat.add_mul, Nat.one_mul]) (by rw [hJ, he.len])
theorem fin_grow (he : EncOk enc s) {K : List E} {i k : Nat} (hi : i ≤ K.length) (hk : k = K.length + 1 - i) (y : E) (Z : List Value) (hZ : Z.length = k * s) : splL (splL ((flatE enc K).take (i * s) ++ Z) (0 + i * s) (enc y)) (0 + (i + 1) * s) (flatE enc (K.drop i)) = flatE enc (K.take i ++ y :: K.drop i) := by
  have hA : (flatE enc (K.take i)).length = i * s := by rw [flatE_len he, List.length_take, Nat.min_eq_left hi]
  have hB : (flatE enc (K.drop i)).length = (K.length - i) * s := by rw [flatE_len he, List.length_drop]
  rw [ins_eq, flatE_take he K i hi]
  refine ins_grow _ _ _ _ (by rw [hA, Nat.zero_add]) (by rw [hA, he.len, Nat.zero_add, Nat.add_mul, Nat.one_mul]) ?_
  rw [hZ, hB, he.len, hk, show K.length + 1 - i = 1 + (K.length - i) by omega, Nat.add_mul, Nat.one_mul]
end
end Gx
namespace Go.Proofs.Ytoencnbpjjkjnaa
open Go.RowKit Rm Gx
theorem ov_false (w : World) (a b : Nat) (oa ob la ca lb cb : Nat) (xa xb : Array Value) (ta tb : TypeId) (ha : w.heap[a]? = some (.cells xa ta (0, 0))) (hb : w.heap[b]? = some (.cells xb tb (0, 0))) (hne : a ≠ b) (hx : xb.size ≠ 0) :
    (callFunc 91 #[.slice (some ⟨a, oa, none⟩) la ca, .slice (some ⟨b, ob, none⟩) lb cb]).run Try.prog w = .ok (.value (.bool false)) w := by
  rw [run_callFunc_extern Try.func91 (by kernel_rfl) (by kernel_rfl) (by kernel_rfl) (e := Extern.SlicesOverlaps.overlaps #[22, 22] #[4]) (by kernel_rfl),
    Lib.run_overlaps_apart w 22 4 32 Try.underlying22 8 (fun w => size_of (by kernel_rfl) w) ⟨a, oa, none⟩ ⟨b, ob, none⟩ la ca lb cb hne ta tb xa.size xb.size (by simp [World.shape?, ha]) (by simp [World.shape?, hb]) hx (by simp [World.frozen?, ha]) (by simp [World.frozen?, ha])]
  rfl
theorem ow_block {w : World} {base g n c s : Nat} {e : TypeId} {xs : List Value} (h : w.ownsRow base e s (.slice (some ⟨g, 0, none⟩) n c) n xs) (hn : 0 < n) (hs : 0 < s) : ∃ cur, w.heap[g]? = some (.cells cur e (0, 0)) ∧ cur.size ≠ 0 := by
  obtain ⟨h1, ⟨hv, -⟩ | ⟨g', cap, cur, hv, h3, hg, h4, h5, h6, h7⟩⟩ := h
  · cases hv
  · injection hv with e1 e2 e3
    injection e1 with e1
    injection e1 with e1
    subst e1 e3
    refine ⟨cur, hg, ?_⟩
    rw [h6]
    exact Nat.mul_ne_zero (by omega) (by omega)
theorem ow_cap {w : World} {base g n c s : Nat} {e : TypeId} {xs : List Value} (h : w.ownsRow base e s (.slice (some ⟨g, 0, none⟩) n c) n xs) : n ≤ c := by
  obtain ⟨h1, ⟨hv, -⟩ | ⟨g', cap, cur, hv, h3, hg, h4, h5, h6, h7⟩⟩ := h
  · cases hv
  · injection hv with e1 e2 e3
    omega
theorem flatE_cell {E : Type} {enc : E → List Value} {s : Nat} (he : EncOk enc s) (K : List E) : ∀ v ∈ flatE enc K, v.oneCell' = true := by
  intro v hv
  unfold flatE at hv
  obtain ⟨x, -, hx⟩ := List.mem_flatMap.1 hv
  exact he.one x v hx
theorem _root_.Gx.Bk.grown_ne' {w w' : World} {b : Nat} {cs : Array Value} {t : TypeId} {v : Value} (h : Bk w b cs t) (k : w.grownBy w' v.ownBlock) (hr : ∀ j, v.ownBlock = some j → j ≠ b) : Bk w' b cs t :=
  (k.block b h.lt (fun e => hr b e.symm rfl)).trans h
set_option maxHeartbeats 8000000 in
set_option maxRecDepth 100000 in
theorem search_any (K : List VerI) (y : VerI) (va : Option Addr) (vc : Nat) (hl : K.length ≤ 1000) (hS : ∀ (j k : Nat) (x z : VerI), j ≤ k → K[j]? = some x → K[k]? = some z → cmpV z.d y.d < 0 → cmpV x.d y.d < 0) (w : World) (hv : RdA encVr 8 w va K) :
    Calls Try.prog 69 #[.slice va K.length vc, .agg #[.string (bs y.d.id), .int .i64 (y.d.s), .int .i64 (y.d.c), .int .i64 (y.d.t), .int .i64 (y.d.n), .int .i64 (y.d.b), .slice y.va y.d.V.length y.vc, .slice y.ma y.d.M.length y.mc], .func (.func 58) #[] #[]] w fun e w' => ∃ (i : Nat) (b : Bool), e = .returned (.tuple #[.int .i64 (i : Int), .bool b]) ∧ i ≤ K.length ∧ (∀ (k : Nat) (x : VerI), k < i → K[k]? = some x → cmpV x.d y.d < 0) ∧ (∀ (k : Nat) (x : VerI), i ≤ k → K[k]? = some x → 0 ≤ cmpV x.d y.d) ∧ (b = true ↔ ∃ x, K[i]? = some x ∧ cmpV x.d y.d = 0) ∧ Gr w w' := by
  refine enter (N := 49) Try.func69 rfl rfl rfl (fun a0 ok0 h0 => ?_)
  have e0_0 : a0.eval (.tmp 0) = .slice va K.length vc := h0 0 _ rfl
  have e0_1 : a0.eval (.tmp 1) = .agg #[.string (bs y.d.id), .int .i64 (y.d.s), .int .i64 (y.d.c), .int .i64 (y.d.t), .int .i64 (y.d.n), .int .i64 (y.d.b), .slice y.va y.d.V.length y.vc, .slice y.ma y.d.M.length y.mc] := h0 1 _ rfl
  have e0_2 : a0.eval (.tmp 2) = .func (.func 58) #[] #[] := h0 2 _ rfl
  clear h0
  have G0 := Gr.refl w
  refine wp_seq_k (fun K1 hK1 => ?_)
  refine wp_region_lit ?_
  refine sal (cs := #[.string (bs y.d.id), .int .i64 (y.d.s), .int .i64 (y.d.c), .int .i64 (y.d.t), .int .i64 (y.d.n), .int .i64 (y.d.b), .slice y.va y.d.V.length y.vc, .slice y.ma y.d.M.length y.mc]) ok0 rfl (wn _ rfl) rfl (o_box e0_1) (fun an2 w4 b3 W5 n2 => ?_)
  have l6 : w.heap.size ≤ b3 := by rw [W5.eq]; exact G0.size
  have G7 := G0.trans W5.gr
  refine sv n2.ok rfl (wn _ rfl) rfl (o_as ev_const) (fun an8 n8 => ?_)
  refine sv n8.ok rfl (wn _ rfl) rfl (o_as ev_const) (fun an9 n9 => ?_)
  refine wpList_nil ?_
  refine th_n (hK1 _ _ ?_)
  refine wp_seq_k (fun K10 hK10 => ?_)
  refine wp_region_lit ?_
  have e11 := n9.ne rfl (n8.ne rfl (n2.ne rfl e0_0))
  refine sv n9.ok rfl (wn _ rfl) rfl (o_mv e11) (fun an12 n12 => ?_)
  refine sv n12.ok rfl (wn _ rfl) rfl (o_len n12.at_ Try.underlying22) (fun an13 n13 => ?_)
  refine sv n13.ok rfl (wn _ rfl) rfl (o_as n13.at_) (fun an14 n14 => ?_)
  refine wpList_nil ?_
  refine th_n (hK10 _ _ ?_)
  refine wp_seq_k (fun K15 hK15 => ?_)
  refine wp_region_lit ?_
  refine sv n14.ok rfl (wn _ rfl) rfl (o_mv n14.at_) (fun an16 n16 => ?_)
  refine sv n16.ok rfl (wn _ rfl) rfl (o_as ev_const) (fun an17 n17 => ?_)
  refine sv n17.ok rfl (wn _ rfl) rfl (o_as (n17.ne rfl n16.at_)) (fun an18 n18 => ?_)
  refine wpList_nil ?_
  refine th_n (hK15 _ _ ?_)
  refine wp_seq_k (fun K19 hK19 => ?_)
  refine wp_block ?_
  have e21 := n18.ne rfl (n17.ne rfl (n16.ne rfl (n14.ne rfl (n13.ne rfl (n12.ne rfl e11)))))
  have e22 := n18.ne rfl (n17.ne rfl (n16.ne rfl (n14.ne rfl (n13.ne rfl (n12.ne rfl (n9.ne rfl (n8.ne rfl (n2.ne rfl e0_2))))))))
  have e23 := n18.ne rfl (n17.ne rfl (n16.ne rfl (n14.ne rfl (n13.ne rfl (n12.ne rfl (n9.ne rfl (n8.ne rfl n2.at_)))))))
  have e24 := n18.ne rfl (n17.ne rfl (n16.ne rfl (n14.ne rfl (n13.ne rfl (n12.ne rfl (n9.ne rfl n8.at_))))))
  have e25 := n18.ne rfl (n17.ne rfl (n16.ne rfl (n14.ne rfl (n13.ne rfl (n12.ne rfl n9.at_)))))
  have e26 := n18.ne rfl (n17.ne rfl (n16.ne rfl n14.at_))
  refine lp (fun (nL : Nat) (aL : Act) (wL : World) => ∃ i : Nat, ∃ j : Nat, nL = j - i ∧ Ok 49 aL ∧ Gr w wL ∧ (aL.eval (.tmp 0) = .slice va K.length vc) ∧ (aL.eval (.tmp 2) = .func (.func 58) #[] #[]) ∧ (aL.eval (.tmp 4) = .pointer (some ⟨b3, 0, none⟩)) ∧ (aL.eval (.tmp 6) = .int .i64 0) ∧ (aL.eval (.tmp 7) = .bool false) ∧ (aL.eval (.tmp 8) = .int .i64 ((K.length : Nat) : Int)) ∧ (aL.eval (.tmp 9) = .int .i64 (i : Int)) ∧ (aL.eval (.tmp 10) = .int .i64 (j : Int)) ∧ (Bk wL b3 #[.string (bs y.d.id), .int .i64 (y.d.s), .int .i64 (y.d.c), .int .i64 (y.d.t), .int .i64 (y.d.n), .int .i64 (y.d.b), .slice y.va y.d.V.length y.vc, .slice y.ma y.d.M.length y.mc] 32) ∧ (i ≤ j) ∧ (j ≤ K.length) ∧ (∀ (k : Nat) (x : VerI), k < i → K[k]? = some x → cmpV x.d y.d < 0) ∧ (∀ (k : Nat) (x : VerI), j ≤ k → K[k]? = some x → 0 ≤ cmpV x.d y.d)) _ ⟨0, K.length, rfl, n18.ok, G7, e21, e22, e23, e24, e25, e26, (n18.ne rfl n17.at_), n18.at_, W5.bk, by omega, by omega, fun k x hk => by omega, fun k x hk hx => by have := (List.getElem?_eq_some_iff.1 hx).1; omega⟩ ?_
  rintro m27 aI20 w29 ⟨i, j, hmI20, okI20, GI20, s0I20, s2I20, s4I20, s6I20, s7I20, s8I20, s9I20, s10I20, kb3I20, hijI20, hjI20, hloI20, hhiI20⟩ KI20 hKI20
  refine wp_seq_k (fun K30 hK30 => ?_)
  refine wp_seq_k (fun K31 hK31 => ?_)
  refine wp_region_lit ?_
  refine sv okI20 rfl (wn _ rfl) rfl (o_mv s9I20) (fun an32 n32 => ?_)
  refine sv n32.ok rfl (wn _ rfl) rfl (o_mv (n32.ne rfl s10I20)) (fun an33 n33 => ?_)
  refine sv n33.ok rfl (wn _ rfl) rfl (o_ltI (n33.ne rfl n32.at_) n33.at_) (fun an34 n34 => ?_)
  refine wpList_nil ?_
  refine th_n (hK31 _ _ ?_)
  by_cases c35 : (i : Int) < (j : Int)
  · refine wp_cond_true ((n34.at_).trans (congrArg Value.bool (decide_eq_true c35))) ?_
    refine wp_skip ?_
    refine th_n (hK30 _ _ ?_)
    refine wp_block ?_
    refine wp_seq_k (fun K36 hK36 => ?_)
    refine wp_region_lit ?_
    have e37 := n34.ne rfl (n33.ne rfl (n32.ne rfl s9I20))
    refine sv n34.ok rfl (wn _ rfl) rfl (o_mv e37) (fun an38 n38 => ?_)
    have e39 := n38.ne rfl (n34.ne rfl (n33.ne rfl (n32.ne rfl s10I20)))
    refine sv n38.ok rfl (wn _ rfl) rfl (o_mv e39) (fun an40 n40 => ?_)
    refine sv n40.ok rfl (wn _ rfl) rfl (o_add (r := ((i + j : Nat) : Int)) (n40.ne rfl n38.at_) n40.at_ (by omega) (by omega)) (fun an41 n41 => ?_)
    refine sv n41.ok rfl (wn _ rfl) rfl (o_cv n41.at_ Try.underlying3 Try.underlying124 (IntWalk.u64_in _ (by omega))) (fun an42 n42 => ?_)
    refine sv n42.ok rfl (wn _ rfl) rfl (o_half (n := i + j) n42.at_ ev_const) (fun an43 n43 => ?_)
    refine sv n43.ok rfl (wn _ rfl) rfl (o_cv n43.at_ Try.underlying124 Try.underlying3 (IntWalk.i64_in _ (by omega))) (fun an44 n44 => ?_)
    refine sv n44.ok rfl (wn _ rfl) rfl (o_as n44.at_) (fun an45 n45 => ?_)
    refine wpList_nil ?_
    refine th_n (hK36 _ _ ?_)
    refine wp_seq_k (fun K46 hK46 => ?_)
    refine reg_start (N := 49) (m := 8) (by kernel_rfl) (fun R470 => ?_)
    have e48 := n45.ne rfl (n44.ne rfl (n43.ne rfl (n42.ne rfl (n41.ne rfl (n40.ne rfl (n38.ne rfl (n34.ne rfl (n33.ne rfl (n32.ne rfl s2I20)))))))))
    have R471 := R470.snoc (n' := 1) rfl (fun vJ _ => vJ = .func (.func 58) #[] #[]) rfl (fun _ _ _ _ h => h) (fun aS wS pS => by
        exact Does.val (wn _ rfl) (o_mv ((pS.old 2 rfl).trans e48)) (Gr.refl _) rfl rfl)
    have e49 := n45.ne rfl (n44.ne rfl (n43.ne rfl (n42.ne rfl (n41.ne rfl (n40.ne rfl (n38.ne rfl (n34.ne rfl (n33.ne rfl (n32.ne rfl s0I20)))))))))
    have R472 := R471.snoc (n' := 2) rfl (fun vJ _ => vJ = .slice va K.length vc) rfl (fun _ _ _ _ h => h) (fun aS wS pS => by
        exact Does.val (wn _ rfl) (o_mv ((pS.old 0 rfl).trans e49)) (Gr.refl _) rfl rfl)
    have R473 := R472.snoc (n' := 3) rfl (fun vJ _ => vJ = .int .i64 (((i + j) / 2 : Nat) : Int)) rfl (fun _ _ _ _ h => h) (fun aS wS pS => by
        exact Does.val (wn _ rfl) (o_mv ((pS.old 11 rfl).trans n45.at_)) (Gr.refl _) rfl rfl)
    have h50l : (i + j) / 2 < List.length K := by omega
    obtain ⟨bh50, fh50, h50a, h50b, h50c⟩ := hv (ne_nil_of_lt h50l)
    obtain ⟨xh50, h50x⟩ : ∃ x, (K)[(i + j) / 2]? = some x := ⟨_, List.getElem?_eq_getElem h50l⟩
    have R474 := R473.snoc (n' := 4) rfl (fun vJ _ => vJ = .pointer (some ⟨bh50, fh50 + ((i + j) / 2) * 8, none⟩)) rfl (fun _ _ _ _ h => h) (fun aS wS pS => by
        have eR47_1 : aS.eval (.tmp 25) = .slice va K.length vc := pS.pre 1 rfl
        have eR47_2 : aS.eval (.tmp 26) = .int .i64 (((i + j) / 2 : Nat) : Int) := pS.pre 2 rfl
        exact Does.val (wn _ rfl) (o_iaV (i := (i + j) / 2) (s := 8) h50a (eR47_1) (eR47_2) Try.underlying22 (by kernel_rfl) h50l) (Gr.refl _) rfl rfl)
    have R475 := R474.snoc (n' := 5) rfl (fun vJ _ => vJ = .agg #[.string (bs xh50.d.id), .int .i64 (xh50.d.s), .int .i64 (xh50.d.c), .int .i64 (xh50.d.t), .int .i64 (xh50.d.n), .int .i64 (xh50.d.b), .slice xh50.va xh50.d.V.length xh50.vc, .slice xh50.ma xh50.d.M.length xh50.mc]) rfl (fun _ _ _ _ h => h) (fun aS wS pS => by
        have eR47_3 : aS.eval (.tmp 27) = .pointer (some ⟨bh50, fh50 + ((i + j) / 2) * 8, none⟩) := pS.pre 3 rfl
        exact Does.val (wn _ rfl) (o_ldA (k := fh50 + ((i + j) / 2) * 8) (eR47_3) (cs := [.string (bs xh50.d.id), .int .i64 (xh50.d.s), .int .i64 (xh50.d.c), .int .i64 (xh50.d.t), .int .i64 (xh50.d.n), .int .i64 (xh50.d.b), .slice xh50.va xh50.d.V.length xh50.vc, .slice xh50.ma xh50.d.M.length xh50.mc]) (fun j v hv => (Below.cell (GI20.trans (gr_drew pS.gr)) h50b).trans (h50c _ _ h50x j v hv)) Try.underlying32 rfl (by kernel_rfl)) (Gr.refl _) rfl rfl)
    have e51 := n45.ne rfl (n44.ne rfl (n43.ne rfl (n42.ne rfl (n41.ne rfl (n40.ne rfl (n38.ne rfl (n34.ne rfl (n33.ne rfl (n32.ne rfl s4I20)))))))))
    have R476 := R475.snoc (n' := 6) rfl (fun vJ _ => vJ = .agg #[.string (bs y.d.id), .int .i64 (y.d.s), .int .i64 (y.d.c), .int .i64 (y.d.t), .int .i64 (y.d.n), .int .i64 (y.d.b), .slice y.va y.d.V.length y.vc, .slice y.ma y.d.M.length y.mc]) rfl (fun _ _ _ _ h => h) (fun aS wS pS => by
        exact Does.val (wn _ rfl) (o_ldR ((pS.old 4 rfl).trans e51) (Bk.gr kb3I20 (gr_drew pS.gr)) Try.underlying32 rfl (by kernel_rfl)) (Gr.refl _) rfl rfl)
    have R477 := R476.snoc (n' := 7) rfl (fun vJ _ => vJ = .int .i64 (cmpV xh50.d y.d)) rfl (fun _ _ _ _ h => h) (fun aS wS pS => by
        have eR47_0 : aS.eval (.tmp 24) = .func (.func 58) #[] #[] := pS.pre 0 rfl
        have eR47_4 : aS.eval (.tmp 28) = .agg #[.string (bs xh50.d.id), .int .i64 (xh50.d.s), .int .i64 (xh50.d.c), .int .i64 (xh50.d.t), .int .i64 (xh50.d.n), .int .i64 (xh50.d.b), .slice xh50.va xh50.d.V.length xh50.vc, .slice xh50.ma xh50.d.M.length xh50.mc] := pS.pre 4 rfl
        have eR47_5 : aS.eval (.tmp 29) = .agg #[.string (bs y.d.id), .int .i64 (y.d.s), .int .i64 (y.d.c), .int .i64 (y.d.t), .int .i64 (y.d.n), .int .i64 (y.d.b), .slice y.va y.d.V.length y.vc, .slice y.ma y.d.M.length y.mc] := pS.pre 5 rfl
        exact Does.call (wn _ rfl) (o_fv2 (caps := []) ⟨_, Try.func58, rfl, rfl⟩ (eR47_0) (eR47_4) (eR47_5)) (cmpVr_any xh50 y wS) (by rintro _ w2 ⟨rfl, g⟩; exact ⟨_, rfl, g, rfl⟩) rfl)
    have R478 := R477.snoc (n' := 8) rfl (fun vJ _ => vJ = .bool (decide ((cmpV xh50.d y.d) < 0))) rfl (fun _ _ _ _ h => h) (fun aS wS pS => by
        have eR47_6 : aS.eval (.tmp 30) = .int .i64 (cmpV xh50.d y.d) := pS.pre 6 rfl
        exact Does.val (wn _ rfl) (o_ltI (eR47_6) ev_const) (Gr.refl _) rfl rfl)
    refine R478.run (k := 0) (L := #[true, true, true, true, true, true, true, true]) (by kernel_rfl) (by kernel_rfl) (by kernel_rfl) n45.ok (by kernel_rfl) (by kernel_rfl) (fun ap53 w54 p53 => ?_)
    have g55 := gr_drew p53.gr
    have G56 := GI20.trans g55
    have B57 := kb3I20.gr g55
    refine wpAny_done (by kernel_rfl) ?_ _
    refine th_n (hK46 _ _ ?_)
    have ep53_7 : ap53.eval (.tmp 31) = .bool (decide ((cmpV xh50.d y.d) < 0)) := p53.js 7 rfl
    by_cases c58 : (cmpV xh50.d y.d) < 0
    · refine wp_cond_true ((ep53_7).trans (congrArg Value.bool (decide_eq_true c58))) ?_
      refine wp_region_lit ?_
      refine sv p53.ok rfl (wn _ rfl) rfl (o_mv ((p53.old 11 rfl).trans n45.at_)) (fun an59 n59 => ?_)
      refine sv n59.ok rfl (wn _ rfl) rfl (o_add (r := ((((i + j) / 2) + 1 : Nat) : Int)) n59.at_ ev_const (by omega) (by omega)) (fun an60 n60 => ?_)
      refine sv n60.ok rfl (wn _ rfl) rfl (o_as n60.at_) (fun an61 n61 => ?_)
      refine wpList_nil ?_
      refine ib_n ?_
      have e62 := n61.ne rfl (n60.ne rfl (n59.ne rfl ((p53.old 0 rfl).trans e49)))
      have e63 := n61.ne rfl (n60.ne rfl (n59.ne rfl ((p53.old 2 rfl).trans e48)))
      have e64 := n61.ne rfl (n60.ne rfl (n59.ne rfl ((p53.old 4 rfl).trans e51)))
      have e65 := n61.ne rfl (n60.ne rfl (n59.ne rfl ((p53.old 6 rfl).trans (n45.ne rfl (n44.ne rfl (n43.ne rfl (n42.ne rfl (n41.ne rfl (n40.ne rfl (n38.ne rfl (n34.ne rfl (n33.ne rfl (n32.ne rfl s6I20)))))))))))))
      have e66 := n61.ne rfl (n60.ne rfl (n59.ne rfl ((p53.old 7 rfl).trans (n45.ne rfl (n44.ne rfl (n43.ne rfl (n42.ne rfl (n41.ne rfl (n40.ne rfl (n38.ne rfl (n34.ne rfl (n33.ne rfl (n32.ne rfl s7I20)))))))))))))
      have e67 := n61.ne rfl (n60.ne rfl (n59.ne rfl ((p53.old 8 rfl).trans (n45.ne rfl (n44.ne rfl (n43.ne rfl (n42.ne rfl (n41.ne rfl (n40.ne rfl (n38.ne rfl (n34.ne rfl (n33.ne rfl (n32.ne rfl s8I20)))))))))))))
      have e68 := n61.ne rfl (n60.ne rfl (n59.ne rfl ((p53.old 10 rfl).trans (n45.ne rfl (n44.ne rfl (n43.ne rfl (n42.ne rfl (n41.ne rfl (n40.ne rfl e39)))))))))
      exact th_n (hKI20 _ _ _ (by omega) ⟨(i + j) / 2 + 1, j, rfl, n61.ok, G56, e62, e63, e64, e65, e66, e67, n61.at_, e68, B57, by omega, by omega, fun k x hk hx => by
          rcases Nat.lt_or_ge k ((i + j) / 2) with r | r
          · exact hS k _ x _ (Nat.le_of_lt r) hx h50x c58
          · obtain rfl : k = (i + j) / 2 := by omega
            rw [h50x] at hx
            cases hx
            exact c58, by omega⟩)
    · refine wp_cond_false ((ep53_7).trans (congrArg Value.bool (decide_eq_false c58))) ?_
      refine wp_region_lit ?_
      refine sv p53.ok rfl (wn _ rfl) rfl (o_mv ((p53.old 11 rfl).trans n45.at_)) (fun an69 n69 => ?_)
      refine sv n69.ok rfl (wn _ rfl) rfl (o_as n69.at_) (fun an70 n70 => ?_)
      refine wpList_nil ?_
      refine ib_n ?_
      have e71 := n70.ne rfl (n69.ne rfl ((p53.old 0 rfl).trans e49))
      have e72 := n70.ne rfl (n69.ne rfl ((p53.old 2 rfl).trans e48))
      have e73 := n70.ne rfl (n69.ne rfl ((p53.old 4 rfl).trans e51))
      have e74 := n70.ne rfl (n69.ne rfl ((p53.old 6 rfl).trans (n45.ne rfl (n44.ne rfl (n43.ne rfl (n42.ne rfl (n41.ne rfl (n40.ne rfl (n38.ne rfl (n34.ne rfl (n33.ne rfl (n32.ne rfl s6I20))))))))))))
      have e75 := n70.ne rfl (n69.ne rfl ((p53.old 7 rfl).trans (n45.ne rfl (n44.ne rfl (n43.ne rfl (n42.ne rfl (n41.ne rfl (n40.ne rfl (n38.ne rfl (n34.ne rfl (n33.ne rfl (n32.ne rfl s7I20))))))))))))
      have e76 := n70.ne rfl (n69.ne rfl ((p53.old 8 rfl).trans (n45.ne rfl (n44.ne rfl (n43.ne rfl (n42.ne rfl (n41.ne rfl (n40.ne rfl (n38.ne rfl (n34.ne rfl (n33.ne rfl (n32.ne rfl s8I20))))))))))))
      have e77 := n70.ne rfl (n69.ne rfl ((p53.old 9 rfl).trans (n45.ne rfl (n44.ne rfl (n43.ne rfl (n42.ne rfl (n41.ne rfl (n40.ne rfl (n38.ne rfl e37)))))))))
      exact th_n (hKI20 _ _ _ (by omega) ⟨i, (i + j) / 2, rfl, n70.ok, G56, e71, e72, e73, e74, e75, e76, e77, n70.at_, B57, by omega, by omega, by omega, fun k x hk hx => by
          rcases Int.lt_or_le (cmpV x.d y.d) 0 with r | r
          · exact absurd (hS _ k _ x hk h50x hx r) c58
          · exact r⟩)
  · refine wp_cond_false ((n34.at_).trans (congrArg Value.bool (decide_eq_false c35))) ?_
    refine wp_exit ?_
    refine th_x ?_
    refine th_x ?_
    refine ib_x ?_
    refine th_n (hK19 _ _ ?_)
    refine wp_seq_k (fun K78 hK78 => ?_)
    rcases Nat.lt_or_ge i K.length with hi0 | hi0
    · have hi1 := hi0
      refine reg_start (N := 49) (m := 16) (by kernel_rfl) (fun R790 => ?_)
      have e80 := n34.ne rfl (n33.ne rfl (n32.ne rfl s9I20))
      have R791 := R790.snoc (n' := 1) rfl (fun vJ _ => vJ = .int .i64 (i : Int)) rfl (fun _ _ _ _ h => h) (fun aS wS pS => by
          exact Does.val (wn _ rfl) (o_mv ((pS.old 9 rfl).trans e80)) (Gr.refl _) rfl rfl)
      have R792 := R791.snoc (n' := 2) rfl (fun vJ _ => vJ = .int .i64 (i : Int)) rfl (fun _ _ _ _ h => h) (fun aS wS pS => by
          exact Does.val (wn _ rfl) (o_mv ((pS.old 9 rfl).trans e80)) (Gr.refl _) rfl rfl)
      have e81 := n34.ne rfl (n33.ne rfl (n32.ne rfl s8I20))
      have R793 := R792.snoc (n' := 3) rfl (fun vJ _ => vJ = .int .i64 ((K.length : Nat) : Int)) rfl (fun _ _ _ _ h => h) (fun aS wS pS => by
          exact Does.val (wn _ rfl) (o_mv ((pS.old 8 rfl).trans e81)) (Gr.refl _) rfl rfl)
      have R794 := R793.snoc (n' := 4) rfl (fun vJ _ => vJ = .bool true) rfl (fun _ _ _ _ h => h) (fun aS wS pS => by
          have eR79_1 : aS.eval (.tmp 36) = .int .i64 (i : Int) := pS.pre 1 rfl
          have eR79_2 : aS.eval (.tmp 37) = .int .i64 ((K.length : Nat) : Int) := pS.pre 2 rfl
          exact Does.val (wn _ rfl) (o_lss (eR79_1) (eR79_2) (decide_eq_true (show (i : Int) < ((K.length : Nat) : Int) by omega))) (Gr.refl _) rfl rfl)
      have R795 := R794.snoc (n' := 5) rfl (fun vJ _ => vJ = .bool true) rfl (fun _ _ _ _ h => h) (fun aS wS pS => by
          have eR79_3 : aS.eval (.tmp 38) = .bool true := pS.pre 3 rfl
          exact Does.val (wn _ rfl) (o_mv (eR79_3)) (Gr.refl _) rfl rfl)
      have e82 := n34.ne rfl (n33.ne rfl (n32.ne rfl s2I20))
      have R796 := R795.snoc (n' := 6) rfl (fun vJ _ => vJ = .func (.func 58) #[] #[]) rfl (fun _ _ _ _ h => h) (fun aS wS pS => by
          have eR79_4 : aS.eval (.tmp 39) = .bool true := pS.pre 4 rfl
          exact Does.val (wgT rfl (yl 4 true rfl eR79_4) rfl) (o_mv ((pS.old 2 rfl).trans e82)) (Gr.refl _) rfl rfl)
      have e83 := n34.ne rfl (n33.ne rfl (n32.ne rfl s0I20))
      have R797 := R796.snoc (n' := 7) rfl (fun vJ _ => vJ = .slice va K.length vc) rfl (fun _ _ _ _ h => h) (fun aS wS pS => by
          have eR79_4 : aS.eval (.tmp 39) = .bool true := pS.pre 4 rfl
          exact Does.val (wgT rfl (yl 4 true rfl eR79_4) rfl) (o_mv ((pS.old 0 rfl).trans e83)) (Gr.refl _) rfl rfl)
      have R798 := R797.snoc (n' := 8) rfl (fun vJ _ => vJ = .int .i64 (i : Int)) rfl (fun _ _ _ _ h => h) (fun aS wS pS => by
          have eR79_4 : aS.eval (.tmp 39) = .bool true := pS.pre 4 rfl
          exact Does.val (wgT rfl (yl 4 true rfl eR79_4) rfl) (o_mv ((pS.old 9 rfl).trans e80)) (Gr.refl _) rfl rfl)
      have h84l : i < List.length K := by omega
      obtain ⟨bh84, fh84, h84a, h84b, h84c⟩ := hv (ne_nil_of_lt h84l)
      obtain ⟨xh84, h84x⟩ : ∃ x, (K)[i]? = some x := ⟨_, List.getElem?_eq_getElem h84l⟩
      have R799 := R798.snoc (n' := 9) rfl (fun vJ _ => vJ = .pointer (some ⟨bh84, fh84 + i * 8, none⟩)) rfl (fun _ _ _ _ h => h) (fun aS wS pS => by
          have eR79_4 : aS.eval (.tmp 39) = .bool true := pS.pre 4 rfl
          have eR79_6 : aS.eval (.tmp 41) = .slice va K.length vc := pS.pre 6 rfl
          have eR79_7 : aS.eval (.tmp 42) = .int .i64 (i : Int) := pS.pre 7 rfl
          exact Does.val (wgT rfl (yl 4 true rfl eR79_4) rfl) (o_iaV (i := i) (s := 8) h84a (eR79_6) (eR79_7) Try.underlying22 (by kernel_rfl) h84l) (Gr.refl _) rfl rfl)
      have R7910 := R799.snoc (n' := 10) rfl (fun vJ _ => vJ = .agg #[.string (bs xh84.d.id), .int .i64 (xh84.d.s), .int .i64 (xh84.d.c), .int .i64 (xh84.d.t), .int .i64 (xh84.d.n), .int .i64 (xh84.d.b), .slice xh84.va xh84.d.V.length xh84.vc, .slice xh84.ma xh84.d.M.length xh84.mc]) rfl (fun _ _ _ _ h => h) (fun aS wS pS => by
          have eR79_4 : aS.eval (.tmp 39) = .bool true := pS.pre 4 rfl
          have eR79_8 : aS.eval (.tmp 43) = .pointer (some ⟨bh84, fh84 + i * 8, none⟩) := pS.pre 8 rfl
          exact Does.val (wgT rfl (yl 4 true rfl eR79_4) rfl) (o_ldA (k := fh84 + i * 8) (eR79_8) (cs := [.string (bs xh84.d.id), .int .i64 (xh84.d.s), .int .i64 (xh84.d.c), .int .i64 (xh84.d.t), .int .i64 (xh84.d.n), .int .i64 (xh84.d.b), .slice xh84.va xh84.d.V.length xh84.vc, .slice xh84.ma xh84.d.M.length xh84.mc]) (fun j v hv => (Below.cell (GI20.trans (gr_drew pS.gr)) h84b).trans (h84c _ _ h84x j v hv)) Try.underlying32 rfl (by kernel_rfl)) (Gr.refl _) rfl rfl)
      have e85 := n34.ne rfl (n33.ne rfl (n32.ne rfl s4I20))
      have R7911 := R7910.snoc (n' := 11) rfl (fun vJ _ => vJ = .agg #[.string (bs y.d.id), .int .i64 (y.d.s), .int .i64 (y.d.c), .int .i64 (y.d.t), .int .i64 (y.d.n), .int .i64 (y.d.b), .slice y.va y.d.V.length y.vc, .slice y.ma y.d.M.length y.mc]) rfl (fun _ _ _ _ h => h) (fun aS wS pS => by
          have eR79_4 : aS.eval (.tmp 39) = .bool true := pS.pre 4 rfl
          exact Does.val (wgT rfl (yl 4 true rfl eR79_4) rfl) (o_ldR ((pS.old 4 rfl).trans e85) (Bk.gr kb3I20 (gr_drew pS.gr)) Try.underlying32 rfl (by kernel_rfl)) (Gr.refl _) rfl rfl)
      have R7912 := R7911.snoc (n' := 12) rfl (fun vJ _ => vJ = .int .i64 (cmpV xh84.d y.d)) rfl (fun _ _ _ _ h => h) (fun aS wS pS => by
          have eR79_4 : aS.eval (.tmp 39) = .bool true := pS.pre 4 rfl
          have eR79_5 : aS.eval (.tmp 40) = .func (.func 58) #[] #[] := pS.pre 5 rfl
          have eR79_9 : aS.eval (.tmp 44) = .agg #[.string (bs xh84.d.id), .int .i64 (xh84.d.s), .int .i64 (xh84.d.c), .int .i64 (xh84.d.t), .int .i64 (xh84.d.n), .int .i64 (xh84.d.b), .slice xh84.va xh84.d.V.length xh84.vc, .slice xh84.ma xh84.d.M.length xh84.mc] := pS.pre 9 rfl
          have eR79_10 : aS.eval (.tmp 45) = .agg #[.string (bs y.d.id), .int .i64 (y.d.s), .int .i64 (y.d.c), .int .i64 (y.d.t), .int .i64 (y.d.n), .int .i64 (y.d.b), .slice y.va y.d.V.length y.vc, .slice y.ma y.d.M.length y.mc] := pS.pre 10 rfl
          exact Does.call (wgT rfl (yl 4 true rfl eR79_4) rfl) (o_fv2 (caps := []) ⟨_, Try.func58, rfl, rfl⟩ (eR79_5) (eR79_9) (eR79_10)) (cmpVr_any xh84 y wS) (by rintro _ w2 ⟨rfl, g⟩; exact ⟨_, rfl, g, rfl⟩) rfl)
      have R7913 := R7912.snoc (n' := 13) rfl (fun vJ _ => vJ = .bool (decide ((cmpV xh84.d y.d) = 0))) rfl (fun _ _ _ _ h => h) (fun aS wS pS => by
          have eR79_4 : aS.eval (.tmp 39) = .bool true := pS.pre 4 rfl
          have eR79_11 : aS.eval (.tmp 46) = .int .i64 (cmpV xh84.d y.d) := pS.pre 11 rfl
          exact Does.val (wgT rfl (yl 4 true rfl eR79_4) rfl) (o_eqI (eR79_11) ev_const) (Gr.refl _) rfl rfl)
      have R7914 := R7913.snoc (n' := 14) rfl (fun vJ _ => vJ = .bool (decide ((cmpV xh84.d y.d) = 0))) rfl (fun _ _ _ _ h => h) (fun aS wS pS => by
          have eR79_4 : aS.eval (.tmp 39) = .bool true := pS.pre 4 rfl
          have eR79_12 : aS.eval (.tmp 47) = .bool (decide ((cmpV xh84.d y.d) = 0)) := pS.pre 12 rfl
          exact Does.val (wn _ rfl) (o_pkT (eR79_4) (eR79_12)) (Gr.refl _) rfl rfl)
      have R7915 := R7914.snoc (n' := 15) rfl (fun vJ _ => vJ = .int .i64 (i : Int)) rfl (fun _ _ _ _ h => h) (fun aS wS pS => by
          have eR79_0 : aS.eval (.tmp 35) = .int .i64 (i : Int) := pS.pre 0 rfl
          exact Does.val (wn _ rfl) (o_as (eR79_0)) (Gr.refl _) rfl rfl)
      have R7916 := R7915.snoc (n' := 16) rfl (fun vJ _ => vJ = .bool (decide ((cmpV xh84.d y.d) = 0))) rfl (fun _ _ _ _ h => h) (fun aS wS pS => by
          have eR79_13 : aS.eval (.tmp 48) = .bool (decide ((cmpV xh84.d y.d) = 0)) := pS.pre 13 rfl
          exact Does.val (wn _ rfl) (o_as (eR79_13)) (Gr.refl _) rfl rfl)
      refine R7916.run (k := 0) (L := #[true, true, true, true, true, true, true, true, true, true, true, true, true, true, true, true]) (by kernel_rfl) (by kernel_rfl) (by kernel_rfl) n34.ok (by kernel_rfl) (by kernel_rfl) (fun ap87 w88 p87 => ?_)
      have g89 := gr_drew p87.gr
      have G90 := GI20.trans g89
      have B91 := kb3I20.gr g89
      refine wpAny_done (by kernel_rfl) ?_ _
      refine th_n (hK78 _ _ ?_)
      refine wp_ret ?_
      have ep87_14 : ap87.eval (.tmp 6) = .int .i64 (i : Int) := p87.js 14 rfl
      have ep87_15 : ap87.eval (.tmp 7) = .bool (decide ((cmpV xh84.d y.d) = 0)) := p87.js 15 rfl
      exact ret2 p87.ok rfl (ep87_14) (ep87_15) ⟨i, _, rfl, by omega, hloI20, fun k x hk hx => hhiI20 k x (by omega) hx, ⟨fun q => ⟨_, h84x, by simpa using q⟩, fun ⟨x, hx, q⟩ => by rw [h84x] at hx; cases hx; simpa using q⟩, G90⟩
    · have hi1 := hi0
      refine reg_start (N := 49) (m := 16) (by kernel_rfl) (fun R920 => ?_)
      have e93 := n34.ne rfl (n33.ne rfl (n32.ne rfl s9I20))
      have R921 := R920.snoc (n' := 1) rfl (fun vJ _ => vJ = .int .i64 (i : Int)) rfl (fun _ _ _ _ h => h) (fun aS wS pS => by
          exact Does.val (wn _ rfl) (o_mv ((pS.old 9 rfl).trans e93)) (Gr.refl _) rfl rfl)
      have R922 := R921.snoc (n' := 2) rfl (fun vJ _ => vJ = .int .i64 (i : Int)) rfl (fun _ _ _ _ h => h) (fun aS wS pS => by
          exact Does.val (wn _ rfl) (o_mv ((pS.old 9 rfl).trans e93)) (Gr.refl _) rfl rfl)
      have e94 := n34.ne rfl (n33.ne rfl (n32.ne rfl s8I20))
      have R923 := R922.snoc (n' := 3) rfl (fun vJ _ => vJ = .int .i64 ((K.length : Nat) : Int)) rfl (fun _ _ _ _ h => h) (fun aS wS pS => by
          exact Does.val (wn _ rfl) (o_mv ((pS.old 8 rfl).trans e94)) (Gr.refl _) rfl rfl)
      have R924 := R923.snoc (n' := 4) rfl (fun vJ _ => vJ = .bool false) rfl (fun _ _ _ _ h => h) (fun aS wS pS => by
          have eR92_1 : aS.eval (.tmp 36) = .int .i64 (i : Int) := pS.pre 1 rfl
          have eR92_2 : aS.eval (.tmp 37) = .int .i64 ((K.length : Nat) : Int) := pS.pre 2 rfl
          exact Does.val (wn _ rfl) (o_lss (eR92_1) (eR92_2) (decide_eq_false (show ¬ (i : Int) < ((K.length : Nat) : Int) by omega))) (Gr.refl _) rfl rfl)
      have R925 := R924.snoc (n' := 5) rfl (fun vJ _ => vJ = .bool false) rfl (fun _ _ _ _ h => h) (fun aS wS pS => by
          have eR92_3 : aS.eval (.tmp 38) = .bool false := pS.pre 3 rfl
          exact Does.val (wn _ rfl) (o_mv (eR92_3)) (Gr.refl _) rfl rfl)
      have R926 := R925.snoc (n' := 6) rfl (fun vJ _ => vJ = undef) rfl (fun _ _ _ _ h => h) (fun aS wS pS => by
          have eR92_4 : aS.eval (.tmp 39) = .bool false := pS.pre 4 rfl
          exact Does.not (wgF rfl (yl 4 false rfl eR92_4) rfl) rfl rfl)
      have R927 := R926.snoc (n' := 7) rfl (fun vJ _ => vJ = undef) rfl (fun _ _ _ _ h => h) (fun aS wS pS => by
          have eR92_4 : aS.eval (.tmp 39) = .bool false := pS.pre 4 rfl
          exact Does.not (wgF rfl (yl 4 false rfl eR92_4) rfl) rfl rfl)
      have R928 := R927.snoc (n' := 8) rfl (fun vJ _ => vJ = undef) rfl (fun _ _ _ _ h => h) (fun aS wS pS => by
          have eR92_4 : aS.eval (.tmp 39) = .bool false := pS.pre 4 rfl
          exact Does.not (wgF rfl (yl 4 false rfl eR92_4) rfl) rfl rfl)
      have R929 := R928.snoc (n' := 9) rfl (fun vJ _ => vJ = undef) rfl (fun _ _ _ _ h => h) (fun aS wS pS => by
          have eR92_4 : aS.eval (.tmp 39) = .bool false := pS.pre 4 rfl
          exact Does.not (wgF rfl (yl 4 false rfl eR92_4) rfl) rfl rfl)
      have R9210 := R929.snoc (n' := 10) rfl (fun vJ _ => vJ = undef) rfl (fun _ _ _ _ h => h) (fun aS wS pS => by
          have eR92_4 : aS.eval (.tmp 39) = .bool false := pS.pre 4 rfl
          exact Does.not (wgF rfl (yl 4 false rfl eR92_4) rfl) rfl rfl)
      have R9211 := R9210.snoc (n' := 11) rfl (fun vJ _ => vJ = undef) rfl (fun _ _ _ _ h => h) (fun aS wS pS => by
          have eR92_4 : aS.eval (.tmp 39) = .bool false := pS.pre 4 rfl
          exact Does.not (wgF rfl (yl 4 false rfl eR92_4) rfl) rfl rfl)
      have R9212 := R9211.snoc (n' := 12) rfl (fun vJ _ => vJ = undef) rfl (fun _ _ _ _ h => h) (fun aS wS pS => by
          have eR92_4 : aS.eval (.tmp 39) = .bool false := pS.pre 4 rfl
          exact Does.not (wgF rfl (yl 4 false rfl eR92_4) rfl) rfl rfl)
      have R9213 := R9212.snoc (n' := 13) rfl (fun vJ _ => vJ = undef) rfl (fun _ _ _ _ h => h) (fun aS wS pS => by
          have eR92_4 : aS.eval (.tmp 39) = .bool false := pS.pre 4 rfl
          exact Does.not (wgF rfl (yl 4 false rfl eR92_4) rfl) rfl rfl)
      have R9214 := R9213.snoc (n' := 14) rfl (fun vJ _ => vJ = .bool false) rfl (fun _ _ _ _ h => h) (fun aS wS pS => by
          have eR92_4 : aS.eval (.tmp 39) = .bool false := pS.pre 4 rfl
          exact Does.val (wn _ rfl) (o_pkF (eR92_4) ev_const) (Gr.refl _) rfl rfl)
      have R9215 := R9214.snoc (n' := 15) rfl (fun vJ _ => vJ = .int .i64 (i : Int)) rfl (fun _ _ _ _ h => h) (fun aS wS pS => by
          have eR92_0 : aS.eval (.tmp 35) = .int .i64 (i : Int) := pS.pre 0 rfl
          exact Does.val (wn _ rfl) (o_as (eR92_0)) (Gr.refl _) rfl rfl)
      have R9216 := R9215.snoc (n' := 16) rfl (fun vJ _ => vJ = .bool false) rfl (fun _ _ _ _ h => h) (fun aS wS pS => by
          have eR92_13 : aS.eval (.tmp 48) = .bool false := pS.pre 13 rfl
          exact Does.val (wn _ rfl) (o_as (eR92_13)) (Gr.refl _) rfl rfl)
      refine R9216.run (k := 0) (L := #[true, true, true, true, true, true, true, true, true, true, true, true, true, true, true, true]) (by kernel_rfl) (by kernel_rfl) (by kernel_rfl) n34.ok (by kernel_rfl) (by kernel_rfl) (fun ap96 w97 p96 => ?_)
      have g98 := gr_drew p96.gr
      have G99 := GI20.trans g98
      have B100 := kb3I20.gr g98
      refine wpAny_done (by kernel_rfl) ?_ _
      refine th_n (hK78 _ _ ?_)
      refine wp_ret ?_
      have ep96_14 : ap96.eval (.tmp 6) = .int .i64 (i : Int) := p96.js 14 rfl
      have ep96_15 : ap96.eval (.tmp 7) = .bool false := p96.js 15 rfl
      exact ret2 p96.ok rfl (ep96_14) (ep96_15) ⟨i, _, rfl, by omega, hloI20, fun k x hk hx => hhiI20 k x (by omega) hx, ⟨fun q => (by cases q), fun ⟨x, hx, q⟩ => by have := (List.getElem?_eq_some_iff.1 hx).1; omega⟩, G99⟩
set_option maxHeartbeats 8000000 in
set_option maxRecDepth 100000 in
theorem insert_none (y : VerI) (b1 base : Nat) (w0 w : World) (hG : Gr w0 w) (hB : w0.heap.size ≤ base) (hz : base ≤ w.heap.size) (ho : w.ownsRow base 32 8 (.slice none 0 0) 0 (flatE encVr [])) (hb : Bk w b1 #[.string (bs y.d.id), .int .i64 (y.d.s), .int .i64 (y.d.c), .int .i64 (y.d.t), .int .i64 (y.d.n), .int .i64 (y.d.b), .slice y.va y.d.V.length y.vc, .slice y.ma y.d.M.length y.mc] 32) (holt : ∀ k, Value.ownBlock (.slice none 0 0) = some k → k < b1) :
    Calls Try.prog 72 #[.slice none 0 0, .int .i64 0, .slice (some ⟨b1, 0, none⟩) 1 1] w fun e w' => ∃ u, e = .returned u ∧ w'.ownsRow base 32 8 u 1 (flatE encVr [y]) ∧ w.grownBy w' none := by
  refine enter (N := 95) Try.func72 rfl rfl rfl (fun a0 ok0 h0 => ?_)
  have e0_0 : a0.eval (.tmp 0) = .slice none 0 0 := h0 0 _ rfl
  have e0_1 : a0.eval (.tmp 1) = .int .i64 0 := h0 1 _ rfl
  have e0_2 : a0.eval (.tmp 2) = .slice (some ⟨b1, 0, none⟩) 1 1 := h0 2 _ rfl
  clear h0
  refine wp_seq_k (fun K1 hK1 => ?_)
  refine wp_region_lit ?_
  refine sv ok0 rfl (wn _ rfl) rfl (o_as ev_const) (fun an2 n2 => ?_)
  refine wpList_nil ?_
  refine th_n (hK1 _ _ ?_)
  refine wp_seq_k (fun K3 hK3 => ?_)
  refine wp_region_lit ?_
  refine sv n2.ok rfl (wn _ rfl) rfl (o_mv (n2.ne rfl e0_0)) (fun an4 n4 => ?_)
  refine sv n4.ok rfl (wn _ rfl) rfl (o_mv (n4.ne rfl (n2.ne rfl e0_1))) (fun an5 n5 => ?_)
  refine sv n5.ok rfl (wn _ rfl) rfl (o_cut0 (s := 8) (n5.ne rfl n4.at_) n5.at_ Try.underlying22 (by kernel_rfl)) (fun an6 n6 => ?_)
  refine wpList_nil ?_
  refine th_n (hK3 _ _ ?_)
  refine wp_seq_k (fun K7 hK7 => ?_)
  refine wp_region_lit ?_
  have e8 := n6.ne rfl (n5.ne rfl (n4.ne rfl (n2.ne rfl e0_2)))
  refine sv n6.ok rfl (wn _ rfl) rfl (o_mv e8) (fun an9 n9 => ?_)
  refine sv n9.ok rfl (wn _ rfl) rfl (o_len n9.at_ Try.underlying22) (fun an10 n10 => ?_)
  refine sv n10.ok rfl (wn _ rfl) rfl (o_as n10.at_) (fun an11 n11 => ?_)
  refine wpList_nil ?_
  refine th_n (hK7 _ _ ?_)
  refine wp_seq_k (fun K12 hK12 => ?_)
  refine wp_seq_k (fun K13 hK13 => ?_)
  refine wp_region_lit ?_
  refine sv n11.ok rfl (wn _ rfl) rfl (o_mv n11.at_) (fun an14 n14 => ?_)
  refine sv n14.ok rfl (wn _ rfl) rfl (o_eq (b := false) n14.at_ ev_const (by decide)) (fun an15 n15 => ?_)
  refine wpList_nil ?_
  refine th_n (hK13 _ _ ?_)
  refine wp_cond_false (n15.at_) ?_
  refine wp_skip ?_
  refine th_n (hK12 _ _ ?_)
  refine wp_seq_k (fun K16 hK16 => ?_)
  refine wp_region_lit ?_
  have e17 := n15.ne rfl (n14.ne rfl (n11.ne rfl (n10.ne rfl (n9.ne rfl (n6.ne rfl (n5.ne rfl (n4.ne rfl (n2.ne rfl e0_0))))))))
  refine sv n15.ok rfl (wn _ rfl) rfl (o_mv e17) (fun an18 n18 => ?_)
  refine sv n18.ok rfl (wn _ rfl) rfl (o_len n18.at_ Try.underlying22) (fun an19 n19 => ?_)
  refine sv n19.ok rfl (wn _ rfl) rfl (o_as n19.at_) (fun an20 n20 => ?_)
  refine wpList_nil ?_
  refine th_n (hK16 _ _ ?_)
  refine wp_seq_k (fun K21 hK21 => ?_)
  refine wp_seq_k (fun K22 hK22 => ?_)
  refine wp_region_lit ?_
  have e23 := n20.ne rfl (n19.ne rfl (n18.ne rfl (n15.ne rfl (n14.ne rfl (n11.ne rfl (n10.ne rfl (n9.ne rfl (n6.ne rfl (n5.ne rfl (n4.ne rfl (n2.ne rfl e0_1)))))))))))
  refine sv n20.ok rfl (wn _ rfl) rfl (o_mv e23) (fun an24 n24 => ?_)
  refine sv n24.ok rfl (wn _ rfl) rfl (o_mv (n24.ne rfl n20.at_)) (fun an25 n25 => ?_)
  refine sv n25.ok rfl (wn _ rfl) rfl (o_eq (b := true) (n25.ne rfl n24.at_) n25.at_ (by decide)) (fun an26 n26 => ?_)
  refine wpList_nil ?_
  refine th_n (hK22 _ _ ?_)
  refine wp_cond_true (n26.at_) ?_
  refine wp_seq_k (fun K27 hK27 => ?_)
  refine wp_region_lit ?_
  have e28 := n26.ne rfl (n25.ne rfl (n24.ne rfl (n20.ne rfl (n19.ne rfl (n18.ne rfl e17)))))
  refine sv n26.ok rfl (wn _ rfl) rfl (o_mv e28) (fun an29 n29 => ?_)
  have e30 := n29.ne rfl (n26.ne rfl (n25.ne rfl (n24.ne rfl (n20.ne rfl (n19.ne rfl (n18.ne rfl (n15.ne rfl (n14.ne rfl (n11.ne rfl (n10.ne rfl (n9.ne rfl e8)))))))))))
  refine sv n29.ok rfl (wn _ rfl) rfl (o_mv e30) (fun an31 n31 => ?_)
  obtain ⟨i32, i32a, i32b, i32c, i32d⟩ := info_of (show (Try.prog.info? 32).map (fun i => (i.zero, i.size, i.bytes)) = some (some (.agg #[.string (bs []), .int .i64 0, .int .i64 0, .int .i64 0, .int .i64 0, .int .i64 0, .slice none 0 0, .slice none 0 0]), 8, 104) by kernel_rfl)
  refine s_app (base := base) (n := 0) (xs := (flatE encVr [])) (m := 1) (news := encVr y) n31.ok (wn _ rfl) rfl Try.underlying22 i32a i32b i32c i32d rfl (by omega) (n31.ne rfl n29.at_) ho n31.at_ rfl ((fun j u hu => by rw [add_n]; exact bk_part hb (k := 0) rfl j u hu)) (encVr_ok.one y) (by simp only [maxLen]; omega) (by omega) hz (fun an33 w34 v35 O38 gg39 n33 => ?_)
  obtain ⟨a36, c37, rfl, c37l⟩ := ow_form O38
  have G40 := Gr.grown hG gg39 (fun k e => Nat.le_trans hB (ow_lt ho k e))
  have B41 := hb.grown_ne gg39 holt
  have z42 := Nat.le_trans hz gg39.size
  have F43 := gb_gb (gb_self : w.grownBy w none) gg39
  have O44 : w34.ownsRow base 32 8 (.slice a36 (1) c37) (1) ((flatE encVr [y])) := by have h := O38; rw [← flatE_one (enc := encVr) y, ← flatE_app] at h; exact h
  refine sv n33.ok rfl (wn _ rfl) rfl (o_as n33.at_) (fun an45 n45 => ?_)
  refine wpList_nil ?_
  refine th_n (hK27 _ _ ?_)
  refine wp_ret ?_
  refine th_r ?_
  exact ret1 n45.ok rfl (n45.at_) ⟨_, rfl, O44, F43⟩
set_option maxHeartbeats 8000000 in
set_option maxRecDepth 100000 in
theorem insert_end (K : List VerI) (y : VerI) (g c b1 base i : Nat) (hl : K.length ≤ 900) (hin : i = K.length) (w0 w : World) (hG : Gr w0 w) (hB : w0.heap.size ≤ base) (hz : base ≤ w.heap.size) (ho : w.ownsRow base 32 8 (.slice (some ⟨g, 0, none⟩) K.length c) K.length (flatE encVr K)) (hb : Bk w b1 #[.string (bs y.d.id), .int .i64 (y.d.s), .int .i64 (y.d.c), .int .i64 (y.d.t), .int .i64 (y.d.n), .int .i64 (y.d.b), .slice y.va y.d.V.length y.vc, .slice y.ma y.d.M.length y.mc] 32) (holt : ∀ k, Value.ownBlock (.slice (some ⟨g, 0, none⟩) K.length c) = some k → k < b1) :
    Calls Try.prog 72 #[.slice (some ⟨g, 0, none⟩) K.length c, .int .i64 (i : Int), .slice (some ⟨b1, 0, none⟩) 1 1] w fun e w' => ∃ u, e = .returned u ∧ w'.ownsRow base 32 8 u (K.length + 1) (flatE encVr (K.take i ++ y :: K.drop i)) ∧ w.grownBy w' (some g) := by
  refine enter (N := 95) Try.func72 rfl rfl rfl (fun a0 ok0 h0 => ?_)
  have e0_0 : a0.eval (.tmp 0) = .slice (some ⟨g, 0, none⟩) K.length c := h0 0 _ rfl
  have e0_1 : a0.eval (.tmp 1) = .int .i64 (i : Int) := h0 1 _ rfl
  have e0_2 : a0.eval (.tmp 2) = .slice (some ⟨b1, 0, none⟩) 1 1 := h0 2 _ rfl
  clear h0
  have hcap := ow_cap ho
  refine wp_seq_k (fun K1 hK1 => ?_)
  refine wp_region_lit ?_
  refine sv ok0 rfl (wn _ rfl) rfl (o_as ev_const) (fun an2 n2 => ?_)
  refine wpList_nil ?_
  refine th_n (hK1 _ _ ?_)
  refine wp_seq_k (fun K3 hK3 => ?_)
  refine wp_region_lit ?_
  refine sv n2.ok rfl (wn _ rfl) rfl (o_mv (n2.ne rfl e0_0)) (fun an4 n4 => ?_)
  refine sv n4.ok rfl (wn _ rfl) rfl (o_mv (n4.ne rfl (n2.ne rfl e0_1))) (fun an5 n5 => ?_)
  refine sv n5.ok rfl (wn _ rfl) rfl (o_cutL (k := i) (s := 8) (n5.ne rfl n4.at_) n5.at_ Try.underlying22 (by kernel_rfl) (by omega) (by omega)) (fun an6 n6 => ?_)
  refine wpList_nil ?_
  refine th_n (hK3 _ _ ?_)
  refine wp_seq_k (fun K7 hK7 => ?_)
  refine wp_region_lit ?_
  have e8 := n6.ne rfl (n5.ne rfl (n4.ne rfl (n2.ne rfl e0_2)))
  refine sv n6.ok rfl (wn _ rfl) rfl (o_mv e8) (fun an9 n9 => ?_)
  refine sv n9.ok rfl (wn _ rfl) rfl (o_len n9.at_ Try.underlying22) (fun an10 n10 => ?_)
  refine sv n10.ok rfl (wn _ rfl) rfl (o_as n10.at_) (fun an11 n11 => ?_)
  refine wpList_nil ?_
  refine th_n (hK7 _ _ ?_)
  refine wp_seq_k (fun K12 hK12 => ?_)
  refine wp_seq_k (fun K13 hK13 => ?_)
  refine wp_region_lit ?_
  refine sv n11.ok rfl (wn _ rfl) rfl (o_mv n11.at_) (fun an14 n14 => ?_)
  refine sv n14.ok rfl (wn _ rfl) rfl (o_eq (b := false) n14.at_ ev_const (by decide)) (fun an15 n15 => ?_)
  refine wpList_nil ?_
  refine th_n (hK13 _ _ ?_)
  refine wp_cond_false (n15.at_) ?_
  refine wp_skip ?_
  refine th_n (hK12 _ _ ?_)
  refine wp_seq_k (fun K16 hK16 => ?_)
  refine wp_region_lit ?_
  have e17 := n15.ne rfl (n14.ne rfl (n11.ne rfl (n10.ne rfl (n9.ne rfl (n6.ne rfl (n5.ne rfl (n4.ne rfl (n2.ne rfl e0_0))))))))
  refine sv n15.ok rfl (wn _ rfl) rfl (o_mv e17) (fun an18 n18 => ?_)
  refine sv n18.ok rfl (wn _ rfl) rfl (o_len n18.at_ Try.underlying22) (fun an19 n19 => ?_)
  refine sv n19.ok rfl (wn _ rfl) rfl (o_as n19.at_) (fun an20 n20 => ?_)
  refine wpList_nil ?_
  refine th_n (hK16 _ _ ?_)
  refine wp_seq_k (fun K21 hK21 => ?_)
  refine wp_seq_k (fun K22 hK22 => ?_)
  refine wp_region_lit ?_
  have e23 := n20.ne rfl (n19.ne rfl (n18.ne rfl (n15.ne rfl (n14.ne rfl (n11.ne rfl (n10.ne rfl (n9.ne rfl (n6.ne rfl (n5.ne rfl (n4.ne rfl (n2.ne rfl e0_1)))))))))))
  refine sv n20.ok rfl (wn _ rfl) rfl (o_mv e23) (fun an24 n24 => ?_)
  refine sv n24.ok rfl (wn _ rfl) rfl (o_mv (n24.ne rfl n20.at_)) (fun an25 n25 => ?_)
  refine sv n25.ok rfl (wn _ rfl) rfl (o_eqI (n25.ne rfl n24.at_) n25.at_) (fun an26 n26 => ?_)
  refine wpList_nil ?_
  refine th_n (hK22 _ _ ?_)
  refine wp_cond_true ((n26.at_).trans (congrArg Value.bool (decide_eq_true (by omega)))) ?_
  refine wp_seq_k (fun K28 hK28 => ?_)
  refine wp_region_lit ?_
  have e29 := n26.ne rfl (n25.ne rfl (n24.ne rfl (n20.ne rfl (n19.ne rfl (n18.ne rfl e17)))))
  refine sv n26.ok rfl (wn _ rfl) rfl (o_mv e29) (fun an30 n30 => ?_)
  have e31 := n30.ne rfl (n26.ne rfl (n25.ne rfl (n24.ne rfl (n20.ne rfl (n19.ne rfl (n18.ne rfl (n15.ne rfl (n14.ne rfl (n11.ne rfl (n10.ne rfl (n9.ne rfl e8)))))))))))
  refine sv n30.ok rfl (wn _ rfl) rfl (o_mv e31) (fun an32 n32 => ?_)
  obtain ⟨i33, i33a, i33b, i33c, i33d⟩ := info_of (show (Try.prog.info? 32).map (fun i => (i.zero, i.size, i.bytes)) = some (some (.agg #[.string (bs []), .int .i64 0, .int .i64 0, .int .i64 0, .int .i64 0, .int .i64 0, .slice none 0 0, .slice none 0 0]), 8, 104) by kernel_rfl)
  refine s_app (base := base) (n := K.length) (xs := (flatE encVr K)) (m := 1) (news := encVr y) n32.ok (wn _ rfl) rfl Try.underlying22 i33a i33b i33c i33d rfl (by omega) (n32.ne rfl n30.at_) ho n32.at_ rfl ((fun j u hu => by rw [add_n]; exact bk_part hb (k := 0) rfl j u hu)) (encVr_ok.one y) (by simp only [maxLen]; omega) (by omega) hz (fun an34 w35 v36 O39 gg40 n34 => ?_)
  obtain ⟨a37, c38, rfl, c38l⟩ := ow_form O39
  have G41 := Gr.grown hG gg40 (fun k e => Nat.le_trans hB (ow_lt ho k e))
  have B42 := hb.grown_ne gg40 holt
  have z43 := Nat.le_trans hz gg40.size
  have F44 := gb_gb (gb_self : w.grownBy w (some g)) gg40
  have O45 : w35.ownsRow base 32 8 (.slice a37 ((K.length + 1)) c38) ((K.length + 1)) ((flatE encVr (K ++ [y]))) := by have h := O39; rw [← flatE_one (enc := encVr) y, ← flatE_app] at h; exact h
  refine sv n34.ok rfl (wn _ rfl) rfl (o_as n34.at_) (fun an46 n46 => ?_)
  refine wpList_nil ?_
  refine th_n (hK28 _ _ ?_)
  refine wp_ret ?_
  refine th_r ?_
  exact ret1 n46.ok rfl (n46.at_) ⟨_, rfl, by rw [hin, List.take_of_length_le (Nat.le_refl _), List.drop_eq_nil_of_le (Nat.le_refl _)]; exact O45, F44⟩
set_option maxHeartbeats 8000000 in
set_option maxRecDepth 100000 in
theorem insert_room (K : List VerI) (y : VerI) (g c b1 base i : Nat) (hl : K.length ≤ 900) (hin : i < K.length) (hroom : K.length + 1 ≤ c) (w0 w : World) (hG : Gr w0 w) (hB : w0.heap.size ≤ base) (hz : base ≤ w.heap.size) (ho : w.ownsRow base 32 8 (.slice (some ⟨g, 0, none⟩) K.length c) K.length (flatE encVr K)) (hb : Bk w b1 #[.string (bs y.d.id), .int .i64 (y.d.s), .int .i64 (y.d.c), .int .i64 (y.d.t), .int .i64 (y.d.n), .int .i64 (y.d.b), .slice y.va y.d.V.length y.vc, .slice y.ma y.d.M.length y.mc] 32) (holt : ∀ k, Value.ownBlock (.slice (some ⟨g, 0, none⟩) K.length c) = some k → k < b1) :
    Calls Try.prog 72 #[.slice (some ⟨g, 0, none⟩) K.length c, .int .i64 (i : Int), .slice (some ⟨b1, 0, none⟩) 1 1] w fun e w' => ∃ u, e = .returned u ∧ w'.ownsRow base 32 8 u (K.length + 1) (flatE encVr (K.take i ++ y :: K.drop i)) ∧ w.grownBy w' (some g) := by
  refine enter (N := 95) Try.func72 rfl rfl rfl (fun a0 ok0 h0 => ?_)
  have e0_0 : a0.eval (.tmp 0) = .slice (some ⟨g, 0, none⟩) K.length c := h0 0 _ rfl
  have e0_1 : a0.eval (.tmp 1) = .int .i64 (i : Int) := h0 1 _ rfl
  have e0_2 : a0.eval (.tmp 2) = .slice (some ⟨b1, 0, none⟩) 1 1 := h0 2 _ rfl
  clear h0
  have hcap := ow_cap ho
  refine wp_seq_k (fun K1 hK1 => ?_)
  refine wp_region_lit ?_
  refine sv ok0 rfl (wn _ rfl) rfl (o_as ev_const) (fun an2 n2 => ?_)
  refine wpList_nil ?_
  refine th_n (hK1 _ _ ?_)
  refine wp_seq_k (fun K3 hK3 => ?_)
  refine wp_region_lit ?_
  refine sv n2.ok rfl (wn _ rfl) rfl (o_mv (n2.ne rfl e0_0)) (fun an4 n4 => ?_)
  refine sv n4.ok rfl (wn _ rfl) rfl (o_mv (n4.ne rfl (n2.ne rfl e0_1))) (fun an5 n5 => ?_)
  refine sv n5.ok rfl (wn _ rfl) rfl (o_cutLt (k := i) (s := 8) (n5.ne rfl n4.at_) n5.at_ Try.underlying22 (by kernel_rfl) (by omega) (by have := ow_cap ho; omega)) (fun an6 n6 => ?_)
  refine wpList_nil ?_
  refine th_n (hK3 _ _ ?_)
  refine wp_seq_k (fun K7 hK7 => ?_)
  refine wp_region_lit ?_
  have e8 := n6.ne rfl (n5.ne rfl (n4.ne rfl (n2.ne rfl e0_2)))
  refine sv n6.ok rfl (wn _ rfl) rfl (o_mv e8) (fun an9 n9 => ?_)
  refine sv n9.ok rfl (wn _ rfl) rfl (o_len n9.at_ Try.underlying22) (fun an10 n10 => ?_)
  refine sv n10.ok rfl (wn _ rfl) rfl (o_as n10.at_) (fun an11 n11 => ?_)
  refine wpList_nil ?_
  refine th_n (hK7 _ _ ?_)
  refine wp_seq_k (fun K12 hK12 => ?_)
  refine wp_seq_k (fun K13 hK13 => ?_)
  refine wp_region_lit ?_
  refine sv n11.ok rfl (wn _ rfl) rfl (o_mv n11.at_) (fun an14 n14 => ?_)
  refine sv n14.ok rfl (wn _ rfl) rfl (o_eq (b := false) n14.at_ ev_const (by decide)) (fun an15 n15 => ?_)
  refine wpList_nil ?_
  refine th_n (hK13 _ _ ?_)
  refine wp_cond_false (n15.at_) ?_
  refine wp_skip ?_
  refine th_n (hK12 _ _ ?_)
  refine wp_seq_k (fun K16 hK16 => ?_)
  refine wp_region_lit ?_
  have e17 := n15.ne rfl (n14.ne rfl (n11.ne rfl (n10.ne rfl (n9.ne rfl (n6.ne rfl (n5.ne rfl (n4.ne rfl (n2.ne rfl e0_0))))))))
  refine sv n15.ok rfl (wn _ rfl) rfl (o_mv e17) (fun an18 n18 => ?_)
  refine sv n18.ok rfl (wn _ rfl) rfl (o_len n18.at_ Try.underlying22) (fun an19 n19 => ?_)
  refine sv n19.ok rfl (wn _ rfl) rfl (o_as n19.at_) (fun an20 n20 => ?_)
  refine wpList_nil ?_
  refine th_n (hK16 _ _ ?_)
  refine wp_seq_k (fun K21 hK21 => ?_)
  refine wp_seq_k (fun K22 hK22 => ?_)
  refine wp_region_lit ?_
  have e23 := n20.ne rfl (n19.ne rfl (n18.ne rfl (n15.ne rfl (n14.ne rfl (n11.ne rfl (n10.ne rfl (n9.ne rfl (n6.ne rfl (n5.ne rfl (n4.ne rfl (n2.ne rfl e0_1)))))))))))
  refine sv n20.ok rfl (wn _ rfl) rfl (o_mv e23) (fun an24 n24 => ?_)
  refine sv n24.ok rfl (wn _ rfl) rfl (o_mv (n24.ne rfl n20.at_)) (fun an25 n25 => ?_)
  refine sv n25.ok rfl (wn _ rfl) rfl (o_eqI (n25.ne rfl n24.at_) n25.at_) (fun an26 n26 => ?_)
  refine wpList_nil ?_
  refine th_n (hK22 _ _ ?_)
  refine wp_cond_false ((n26.at_).trans (congrArg Value.bool (decide_eq_false (by omega)))) ?_
  refine wp_skip ?_
  refine th_n (hK21 _ _ ?_)
  refine wp_seq_k (fun K28 hK28 => ?_)
  refine wp_seq_k (fun K29 hK29 => ?_)
  refine wp_region_lit ?_
  have e30 := n26.ne rfl (n25.ne rfl (n24.ne rfl n20.at_))
  refine sv n26.ok rfl (wn _ rfl) rfl (o_mv e30) (fun an31 n31 => ?_)
  have e32 := n31.ne rfl (n26.ne rfl (n25.ne rfl (n24.ne rfl (n20.ne rfl (n19.ne rfl (n18.ne rfl (n15.ne rfl (n14.ne rfl n11.at_))))))))
  refine sv n31.ok rfl (wn _ rfl) rfl (o_mv e32) (fun an33 n33 => ?_)
  refine sv n33.ok rfl (wn _ rfl) rfl (o_add (r := ((K.length + 1 : Nat) : Int)) (n33.ne rfl n31.at_) n33.at_ (by omega) (by omega)) (fun an34 n34 => ?_)
  have e35 := n34.ne rfl (n33.ne rfl (n31.ne rfl (n26.ne rfl (n25.ne rfl (n24.ne rfl (n20.ne rfl (n19.ne rfl (n18.ne rfl e17))))))))
  refine sv n34.ok rfl (wn _ rfl) rfl (o_mv e35) (fun an36 n36 => ?_)
  refine sv n36.ok rfl (wn _ rfl) rfl (o_capS n36.at_ Try.underlying22) (fun an37 n37 => ?_)
  refine sv n37.ok rfl (wn _ rfl) rfl (o_gtI (n37.ne rfl (n36.ne rfl n34.at_)) n37.at_) (fun an38 n38 => ?_)
  refine wpList_nil ?_
  refine th_n (hK29 _ _ ?_)
  refine wp_cond_false ((n38.at_).trans (congrArg Value.bool (decide_eq_false (by omega)))) ?_
  refine wp_skip ?_
  refine th_n (hK28 _ _ ?_)
  refine wp_seq_k (fun K40 hK40 => ?_)
  refine wp_region_lit ?_
  have e41 := n38.ne rfl (n37.ne rfl (n36.ne rfl e35))
  refine sv n38.ok rfl (wn _ rfl) rfl (o_mv e41) (fun an42 n42 => ?_)
  have e43 := n42.ne rfl (n38.ne rfl (n37.ne rfl (n36.ne rfl (n34.ne rfl (n33.ne rfl (n31.ne rfl e30))))))
  refine sv n42.ok rfl (wn _ rfl) rfl (o_mv e43) (fun an44 n44 => ?_)
  have e45 := n44.ne rfl (n42.ne rfl (n38.ne rfl (n37.ne rfl (n36.ne rfl (n34.ne rfl (n33.ne rfl e32))))))
  refine sv n44.ok rfl (wn _ rfl) rfl (o_mv e45) (fun an46 n46 => ?_)
  refine sv n46.ok rfl (wn _ rfl) rfl (o_add (r := ((K.length + 1 : Nat) : Int)) (n46.ne rfl n44.at_) n46.at_ (by omega) (by omega)) (fun an47 n47 => ?_)
  have e48 := n47.ne rfl (n46.ne rfl (n44.ne rfl n42.at_))
  refine sv n47.ok rfl (wn _ rfl) rfl (o_cut (k := K.length + 1) (s := 8) e48 n47.at_ Try.underlying22 (by kernel_rfl) (by omega)) (fun an49 n49 => ?_)
  refine sv n49.ok rfl (wn _ rfl) rfl (o_as n49.at_) (fun an50 n50 => ?_)
  refine wpList_nil ?_
  refine th_n (hK40 _ _ ?_)
  refine wp_seq_k (fun K51 hK51 => ?_)
  refine wp_seq_k (fun K52 hK52 => ?_)
  obtain ⟨J, hJ, OJ⟩ := ow_room ho (show K.length + 1 ≤ c by omega)
  refine wp_region_lit ?_
  have e53 := n50.ne rfl (n49.ne rfl (n47.ne rfl (n46.ne rfl (n44.ne rfl (n42.ne rfl (n38.ne rfl (n37.ne rfl (n36.ne rfl (n34.ne rfl (n33.ne rfl (n31.ne rfl (n26.ne rfl (n25.ne rfl (n24.ne rfl (n20.ne rfl (n19.ne rfl (n18.ne rfl (n15.ne rfl (n14.ne rfl (n11.ne rfl (n10.ne rfl (n9.ne rfl e8))))))))))))))))))))))
  refine sv n50.ok rfl (wn _ rfl) rfl (o_mv e53) (fun an54 n54 => ?_)
  refine sv n54.ok rfl (wn _ rfl) rfl (o_mv (n54.ne rfl n50.at_)) (fun an55 n55 => ?_)
  have e56 := n55.ne rfl (n54.ne rfl (n50.ne rfl (n49.ne rfl (n47.ne rfl (n46.ne rfl (n44.ne rfl (n42.ne rfl (n38.ne rfl (n37.ne rfl (n36.ne rfl (n34.ne rfl (n33.ne rfl (n31.ne rfl (n26.ne rfl (n25.ne rfl (n24.ne rfl e23))))))))))))))))
  refine sv n55.ok rfl (wn _ rfl) rfl (o_mv e56) (fun an57 n57 => ?_)
  have e58 := n57.ne rfl (n55.ne rfl (n54.ne rfl (n50.ne rfl (n49.ne rfl (n47.ne rfl (n46.ne rfl e45))))))
  refine sv n57.ok rfl (wn _ rfl) rfl (o_mv e58) (fun an59 n59 => ?_)
  refine sv n59.ok rfl (wn _ rfl) rfl (o_add (r := ((i + 1 : Nat) : Int)) (n59.ne rfl n57.at_) n59.at_ (by omega) (by omega)) (fun an60 n60 => ?_)
  have e61 := n60.ne rfl (n59.ne rfl (n57.ne rfl n55.at_))
  refine sv n60.ok rfl (wn _ rfl) rfl (o_cutLt (k := i + 1) (s := 8) e61 n60.at_ Try.underlying22 (by kernel_rfl) (by omega) (by have := ow_cap OJ; omega)) (fun an62 n62 => ?_)
  obtain ⟨cur, hcur, hcz⟩ := ow_block OJ (by omega) (by omega)
  have e63 := n62.ne rfl (n60.ne rfl (n59.ne rfl (n57.ne rfl (n55.ne rfl n54.at_))))
  refine sv n62.ok rfl (wn _ rfl) rfl (o_ext (vs := #[.slice (some ⟨b1, 0, none⟩) 1 1, .slice (some ⟨g, 0 + (i + 1) * 8, none⟩) (K.length + 1 - (i + 1)) (c - (i + 1))]) (ov_false _ _ _ _ _ _ _ _ _ _ _ _ _ hb hcur (fun e => Nat.lt_irrefl _ (by have h := holt g rfl; rw [e] at h; exact h)) hcz) ev_func (by simp [e63, n62.at_])) (fun an64 n64 => ?_)
  refine sv n64.ok rfl (wn _ rfl) rfl (o_not n64.at_ rfl) (fun an65 n65 => ?_)
  refine wpList_nil ?_
  refine th_n (hK52 _ _ ?_)
  refine wp_cond_true (n65.at_) ?_
  refine wp_seq_k (fun K66 hK66 => ?_)
  refine reg_start (N := 95) (m := 8) (by kernel_rfl) (fun R670 => ?_)
  have e68 := n65.ne rfl (n64.ne rfl (n62.ne rfl (n60.ne rfl (n59.ne rfl (n57.ne rfl (n55.ne rfl (n54.ne rfl n50.at_)))))))
  have R671 := R670.snoc (n' := 1) rfl (fun vJ _ => vJ = .slice (some ⟨g, 0, none⟩) (K.length + 1) c) rfl (fun _ _ _ _ h => h) (fun aS wS pS => by
      exact Does.val (wn _ rfl) (o_mv ((pS.old 0 rfl).trans e68)) (Gr.refl _) rfl rfl)
  have e69 := n65.ne rfl (n64.ne rfl (n62.ne rfl (n60.ne rfl (n59.ne rfl (n57.ne rfl e56)))))
  have R672 := R671.snoc (n' := 2) rfl (fun vJ _ => vJ = .int .i64 (i : Int)) rfl (fun _ _ _ _ h => h) (fun aS wS pS => by
      exact Does.val (wn _ rfl) (o_mv ((pS.old 1 rfl).trans e69)) (Gr.refl _) rfl rfl)
  have e70 := n65.ne rfl (n64.ne rfl (n62.ne rfl (n60.ne rfl (n59.ne rfl e58))))
  have R673 := R672.snoc (n' := 3) rfl (fun vJ _ => vJ = .int .i64 1) rfl (fun _ _ _ _ h => h) (fun aS wS pS => by
      exact Does.val (wn _ rfl) (o_mv ((pS.old 7 rfl).trans e70)) (Gr.refl _) rfl rfl)
  have R674 := R673.snoc (n' := 4) rfl (fun vJ _ => vJ = .int .i64 ((i + 1 : Nat) : Int)) rfl (fun _ _ _ _ h => h) (fun aS wS pS => by
      have eR67_1 : aS.eval (.tmp 70) = .int .i64 (i : Int) := pS.pre 1 rfl
      have eR67_2 : aS.eval (.tmp 71) = .int .i64 1 := pS.pre 2 rfl
      exact Does.val (wn _ rfl) (o_add (r := ((i + 1 : Nat) : Int)) (eR67_1) (eR67_2) (by omega) (by omega)) (Gr.refl _) rfl rfl)
  have R675 := R674.snoc (n' := 5) rfl (fun vJ _ => vJ = .slice (some ⟨g, 0 + (i + 1) * 8, none⟩) (K.length + 1 - (i + 1)) (c - (i + 1))) rfl (fun _ _ _ _ h => h) (fun aS wS pS => by
      have eR67_0 : aS.eval (.tmp 69) = .slice (some ⟨g, 0, none⟩) (K.length + 1) c := pS.pre 0 rfl
      have eR67_3 : aS.eval (.tmp 72) = .int .i64 ((i + 1 : Nat) : Int) := pS.pre 3 rfl
      exact Does.val (wn _ rfl) (o_cutLt (k := i + 1) (s := 8) (eR67_0) (eR67_3) Try.underlying22 (by kernel_rfl) (by omega) (by have := ow_cap OJ; omega)) (Gr.refl _) rfl rfl)
  have R676 := R675.snoc (n' := 6) rfl (fun vJ _ => vJ = .slice (some ⟨g, 0, none⟩) (K.length + 1) c) rfl (fun _ _ _ _ h => h) (fun aS wS pS => by
      exact Does.val (wn _ rfl) (o_mv ((pS.old 0 rfl).trans e68)) (Gr.refl _) rfl rfl)
  have R677 := R676.snoc (n' := 7) rfl (fun vJ _ => vJ = .int .i64 (i : Int)) rfl (fun _ _ _ _ h => h) (fun aS wS pS => by
      exact Does.val (wn _ rfl) (o_mv ((pS.old 1 rfl).trans e69)) (Gr.refl _) rfl rfl)
  have R678 := R677.snoc (n' := 8) rfl (fun vJ _ => vJ = .slice (some ⟨g, 0 + i * 8, none⟩) (K.length + 1 - i) (c - i)) rfl (fun _ _ _ _ h => h) (fun aS wS pS => by
      have eR67_5 : aS.eval (.tmp 74) = .slice (some ⟨g, 0, none⟩) (K.length + 1) c := pS.pre 5 rfl
      have eR67_6 : aS.eval (.tmp 75) = .int .i64 (i : Int) := pS.pre 6 rfl
      exact Does.val (wn _ rfl) (o_cutLt (k := i) (s := 8) (eR67_5) (eR67_6) Try.underlying22 (by kernel_rfl) (by omega) (by have := ow_cap OJ; omega)) (Gr.refl _) rfl rfl)
  refine R678.run (k := 1) (L := #[true, true, true, true, true, true, true, true, false]) (by kernel_rfl) (by kernel_rfl) (by kernel_rfl) n65.ok (by kernel_rfl) (by kernel_rfl) (fun ap72 w73 p72 => ?_)
  have g74 := gr_drew p72.gr
  have G75 := hG.trans g74
  have B76 := hb.gr g74
  have z77 := Nat.le_trans hz g74.size
  have O78 := ow_gr OJ g74
  have F79 := gb_gr (gb_self : w.grownBy w (some g)) g74
  have ep72_4 : ap72.eval (.tmp 73) = .slice (some ⟨g, 0 + (i + 1) * 8, none⟩) (K.length + 1 - (i + 1)) (c - (i + 1)) := p72.js 4 rfl
  have ep72_7 : ap72.eval (.tmp 76) = .slice (some ⟨g, 0 + i * 8, none⟩) (K.length + 1 - i) (c - i) := p72.js 7 rfl
  refine t_cp (i := 8) (by kernel_rfl) rfl (m := K.length - i) (cs := flatE encVr (K.drop i)) p72.ok (wn _ rfl) rfl ep72_4 ep72_7 Try.underlying22 (by kernel_rfl) (by simp only [Nat.min_def]; split <;> omega) (by rw [flatE_len encVr_ok, List.length_drop]) O78 (by rw [flatE_len encVr_ok, List.length_drop]; omega) (SrcAt.part (SrcAt.own O78) (flat_drop encVr_ok (by omega) J)) (flatE_cell encVr_ok _) (fun an80 w81 O83 gg82 n80 => ?_)
  have G84 := Gr.grown G75 gg82 (fun k e => Nat.le_trans hB (ow_lt O78 k e))
  have B85 := B76.grown_ne gg82 holt
  have z86 := Nat.le_trans z77 gg82.size
  have F87 := gb_gb F79 gg82
  refine wpAny_done (by kernel_rfl) ?_ _
  refine th_n (hK66 _ _ ?_)
  refine wp_seq_k (fun K88 hK88 => ?_)
  refine wp_region_lit ?_
  refine sv n80.ok rfl (wn _ rfl) rfl (o_mv (n80.ne rfl ((p72.old 0 rfl).trans e68))) (fun an89 n89 => ?_)
  have e90 := n89.ne rfl (n80.ne rfl ((p72.old 1 rfl).trans e69))
  refine sv n89.ok rfl (wn _ rfl) rfl (o_mv e90) (fun an91 n91 => ?_)
  refine sv n91.ok rfl (wn _ rfl) rfl (o_cutLt (k := i) (s := 8) (n91.ne rfl n89.at_) n91.at_ Try.underlying22 (by kernel_rfl) (by omega) (by have := ow_cap O83; omega)) (fun an92 n92 => ?_)
  have e93 := n92.ne rfl (n91.ne rfl (n89.ne rfl (n80.ne rfl ((p72.old 2 rfl).trans (n65.ne rfl (n64.ne rfl (n62.ne rfl (n60.ne rfl (n59.ne rfl (n57.ne rfl (n55.ne rfl (n54.ne rfl e53))))))))))))
  refine sv n92.ok rfl (wn _ rfl) rfl (o_mv e93) (fun an94 n94 => ?_)
  refine s_cp (m := 1) (cs := encVr y) n94.ok (wn _ rfl) rfl (n94.ne rfl n92.at_) n94.at_ Try.underlying22 (by kernel_rfl) (by simp only [Nat.min_def]; split <;> omega) rfl O83 (by show _ + 8 ≤ _; omega) (fun j v hv => by rw [add_n, Nat.zero_add]; exact B85.cell _ (by simpa [encVr] using hv)) (encVr_ok.one y) (fun an95 w96 O98 gg97 n95 => ?_)
  have G99 := Gr.grown G84 gg97 (fun k e => Nat.le_trans hB (ow_lt O83 k e))
  have B100 := B85.grown_ne gg97 holt
  have z101 := Nat.le_trans z86 gg97.size
  have F102 := gb_gb F87 gg97
  refine wpList_nil ?_
  refine th_n (hK88 _ _ ?_)
  refine wp_seq_k (fun K103 hK103 => ?_)
  refine wp_region_lit ?_
  have e104 := n95.ne rfl (n94.ne rfl (n92.ne rfl (n91.ne rfl (n89.ne rfl (n80.ne rfl ((p72.old 0 rfl).trans e68))))))
  refine sv n95.ok rfl (wn _ rfl) rfl (o_mv e104) (fun an105 n105 => ?_)
  refine sv n105.ok rfl (wn _ rfl) rfl (o_as n105.at_) (fun an106 n106 => ?_)
  refine wpList_nil ?_
  refine th_n (hK103 _ _ ?_)
  refine wp_ret ?_
  refine th_r ?_
  exact ret1 n106.ok rfl (n106.at_) ⟨_, rfl, by rw [← fin_room encVr_ok (by omega) y J hJ]; exact O98, F102⟩
set_option maxHeartbeats 8000000 in
set_option maxRecDepth 100000 in
theorem insert_grow (K : List VerI) (y : VerI) (g c b1 base i : Nat) (hl : K.length ≤ 900) (hin : i < K.length) (hroom : c < K.length + 1) (w0 w : World) (hG : Gr w0 w) (hB : w0.heap.size ≤ base) (hz : base ≤ w.heap.size) (ho : w.ownsRow base 32 8 (.slice (some ⟨g, 0, none⟩) K.length c) K.length (flatE encVr K)) (hb : Bk w b1 #[.string (bs y.d.id), .int .i64 (y.d.s), .int .i64 (y.d.c), .int .i64 (y.d.t), .int .i64 (y.d.n), .int .i64 (y.d.b), .slice y.va y.d.V.length y.vc, .slice y.ma y.d.M.length y.mc] 32) (holt : ∀ k, Value.ownBlock (.slice (some ⟨g, 0, none⟩) K.length c) = some k → k < b1) :
    Calls Try.prog 72 #[.slice (some ⟨g, 0, none⟩) K.length c, .int .i64 (i : Int), .slice (some ⟨b1, 0, none⟩) 1 1] w fun e w' => ∃ u, e = .returned u ∧ w'.ownsRow base 32 8 u (K.length + 1) (flatE encVr (K.take i ++ y :: K.drop i)) ∧ w.grownBy w' (some g) := by
  refine enter (N := 95) Try.func72 rfl rfl rfl (fun a0 ok0 h0 => ?_)
  have e0_0 : a0.eval (.tmp 0) = .slice (some ⟨g, 0, none⟩) K.length c := h0 0 _ rfl
  have e0_1 : a0.eval (.tmp 1) = .int .i64 (i : Int) := h0 1 _ rfl
  have e0_2 : a0.eval (.tmp 2) = .slice (some ⟨b1, 0, none⟩) 1 1 := h0 2 _ rfl
  clear h0
  have hcap := ow_cap ho
  refine wp_seq_k (fun K1 hK1 => ?_)
  refine wp_region_lit ?_
  refine sv ok0 rfl (wn _ rfl) rfl (o_as ev_const) (fun an2 n2 => ?_)
  refine wpList_nil ?_
  refine th_n (hK1 _ _ ?_)
  refine wp_seq_k (fun K3 hK3 => ?_)
  refine wp_region_lit ?_
  refine sv n2.ok rfl (wn _ rfl) rfl (o_mv (n2.ne rfl e0_0)) (fun an4 n4 => ?_)
  refine sv n4.ok rfl (wn _ rfl) rfl (o_mv (n4.ne rfl (n2.ne rfl e0_1))) (fun an5 n5 => ?_)
  refine sv n5.ok rfl (wn _ rfl) rfl (o_cutLt (k := i) (s := 8) (n5.ne rfl n4.at_) n5.at_ Try.underlying22 (by kernel_rfl) (by omega) (by have := ow_cap ho; omega)) (fun an6 n6 => ?_)
  refine wpList_nil ?_
  refine th_n (hK3 _ _ ?_)
  refine wp_seq_k (fun K7 hK7 => ?_)
  refine wp_region_lit ?_
  have e8 := n6.ne rfl (n5.ne rfl (n4.ne rfl (n2.ne rfl e0_2)))
  refine sv n6.ok rfl (wn _ rfl) rfl (o_mv e8) (fun an9 n9 => ?_)
  refine sv n9.ok rfl (wn _ rfl) rfl (o_len n9.at_ Try.underlying22) (fun an10 n10 => ?_)
  refine sv n10.ok rfl (wn _ rfl) rfl (o_as n10.at_) (fun an11 n11 => ?_)
  refine wpList_nil ?_
  refine th_n (hK7 _ _ ?_)
  refine wp_seq_k (fun K12 hK12 => ?_)
  refine wp_seq_k (fun K13 hK13 => ?_)
  refine wp_region_lit ?_
  refine sv n11.ok rfl (wn _ rfl) rfl (o_mv n11.at_) (fun an14 n14 => ?_)
  refine sv n14.ok rfl (wn _ rfl) rfl (o_eq (b := false) n14.at_ ev_const (by decide)) (fun an15 n15 => ?_)
  refine wpList_nil ?_
  refine th_n (hK13 _ _ ?_)
  refine wp_cond_false (n15.at_) ?_
  refine wp_skip ?_
  refine th_n (hK12 _ _ ?_)
  refine wp_seq_k (fun K16 hK16 => ?_)
  refine wp_region_lit ?_
  have e17 := n15.ne rfl (n14.ne rfl (n11.ne rfl (n10.ne rfl (n9.ne rfl (n6.ne rfl (n5.ne rfl (n4.ne rfl (n2.ne rfl e0_0))))))))
  refine sv n15.ok rfl (wn _ rfl) rfl (o_mv e17) (fun an18 n18 => ?_)
  refine sv n18.ok rfl (wn _ rfl) rfl (o_len n18.at_ Try.underlying22) (fun an19 n19 => ?_)
  refine sv n19.ok rfl (wn _ rfl) rfl (o_as n19.at_) (fun an20 n20 => ?_)
  refine wpList_nil ?_
  refine th_n (hK16 _ _ ?_)
  refine wp_seq_k (fun K21 hK21 => ?_)
  refine wp_seq_k (fun K22 hK22 => ?_)
  refine wp_region_lit ?_
  have e23 := n20.ne rfl (n19.ne rfl (n18.ne rfl (n15.ne rfl (n14.ne rfl (n11.ne rfl (n10.ne rfl (n9.ne rfl (n6.ne rfl (n5.ne rfl (n4.ne rfl (n2.ne rfl e0_1)))))))))))
  refine sv n20.ok rfl (wn _ rfl) rfl (o_mv e23) (fun an24 n24 => ?_)
  refine sv n24.ok rfl (wn _ rfl) rfl (o_mv (n24.ne rfl n20.at_)) (fun an25 n25 => ?_)
  refine sv n25.ok rfl (wn _ rfl) rfl (o_eqI (n25.ne rfl n24.at_) n25.at_) (fun an26 n26 => ?_)
  refine wpList_nil ?_
  refine th_n (hK22 _ _ ?_)
  refine wp_cond_false ((n26.at_).trans (congrArg Value.bool (decide_eq_false (by omega)))) ?_
  refine wp_skip ?_
  refine th_n (hK21 _ _ ?_)
  refine wp_seq_k (fun K28 hK28 => ?_)
  refine wp_seq_k (fun K29 hK29 => ?_)
  refine wp_region_lit ?_
  have e30 := n26.ne rfl (n25.ne rfl (n24.ne rfl n20.at_))
  refine sv n26.ok rfl (wn _ rfl) rfl (o_mv e30) (fun an31 n31 => ?_)
  have e32 := n31.ne rfl (n26.ne rfl (n25.ne rfl (n24.ne rfl (n20.ne rfl (n19.ne rfl (n18.ne rfl (n15.ne rfl (n14.ne rfl n11.at_))))))))
  refine sv n31.ok rfl (wn _ rfl) rfl (o_mv e32) (fun an33 n33 => ?_)
  refine sv n33.ok rfl (wn _ rfl) rfl (o_add (r := ((K.length + 1 : Nat) : Int)) (n33.ne rfl n31.at_) n33.at_ (by omega) (by omega)) (fun an34 n34 => ?_)
  have e35 := n34.ne rfl (n33.ne rfl (n31.ne rfl (n26.ne rfl (n25.ne rfl (n24.ne rfl (n20.ne rfl (n19.ne rfl (n18.ne rfl e17))))))))
  refine sv n34.ok rfl (wn _ rfl) rfl (o_mv e35) (fun an36 n36 => ?_)
  refine sv n36.ok rfl (wn _ rfl) rfl (o_capS n36.at_ Try.underlying22) (fun an37 n37 => ?_)
  refine sv n37.ok rfl (wn _ rfl) rfl (o_gtI (n37.ne rfl (n36.ne rfl n34.at_)) n37.at_) (fun an38 n38 => ?_)
  refine wpList_nil ?_
  refine th_n (hK29 _ _ ?_)
  refine wp_cond_true ((n38.at_).trans (congrArg Value.bool (decide_eq_true (by omega)))) ?_
  refine wp_seq_k (fun K40 hK40 => ?_)
  refine wp_region_lit ?_
  have e41 := n38.ne rfl (n37.ne rfl (n36.ne rfl e35))
  refine sv n38.ok rfl (wn _ rfl) rfl (o_mv e41) (fun an42 n42 => ?_)
  have e43 := n42.ne rfl (n38.ne rfl (n37.ne rfl (n36.ne rfl (n34.ne rfl (n33.ne rfl (n31.ne rfl (n26.ne rfl (n25.ne rfl (n24.ne rfl e23)))))))))
  refine sv n42.ok rfl (wn _ rfl) rfl (o_mv e43) (fun an44 n44 => ?_)
  refine sv n44.ok rfl (wn _ rfl) rfl (o_cut (k := i) (s := 8) (n44.ne rfl n42.at_) n44.at_ Try.underlying22 (by kernel_rfl) (by omega)) (fun an45 n45 => ?_)
  have e46 := n45.ne rfl (n44.ne rfl (n42.ne rfl (n38.ne rfl (n37.ne rfl (n36.ne rfl (n34.ne rfl (n33.ne rfl (n31.ne rfl e30))))))))
  refine sv n45.ok rfl (wn _ rfl) rfl (o_mv e46) (fun an47 n47 => ?_)
  have e48 := n47.ne rfl (n45.ne rfl (n44.ne rfl (n42.ne rfl (n38.ne rfl (n37.ne rfl (n36.ne rfl (n34.ne rfl (n33.ne rfl e32))))))))
  refine sv n47.ok rfl (wn _ rfl) rfl (o_mv e48) (fun an49 n49 => ?_)
  refine sv n49.ok rfl (wn _ rfl) rfl (o_add (r := ((K.length + 1 : Nat) : Int)) (n49.ne rfl n47.at_) n49.at_ (by omega) (by omega)) (fun an50 n50 => ?_)
  have e51 := n50.ne rfl (n49.ne rfl (n47.ne rfl (n45.ne rfl (n44.ne rfl e43))))
  refine sv n50.ok rfl (wn _ rfl) rfl (o_mv e51) (fun an52 n52 => ?_)
  refine sv n52.ok rfl (wn _ rfl) rfl (o_sub (r := (((K.length + 1) - i : Nat) : Int)) (n52.ne rfl n50.at_) n52.at_ (by omega) (by omega)) (fun an53 n53 => ?_)
  have e54 := n53.ne rfl (n52.ne rfl (n50.ne rfl (n49.ne rfl (n47.ne rfl n45.at_))))
  obtain ⟨i55, i55a, i55b, i55c, i55d⟩ := info_of (show (Try.prog.info? 32).map (fun i => (i.zero, i.size, i.bytes)) = some (some (.agg #[.string (bs []), .int .i64 0, .int .i64 0, .int .i64 0, .int .i64 0, .int .i64 0, .slice none 0 0, .slice none 0 0]), 8, 104) by kernel_rfl)
  refine s_apz (n := K.length) (i := i) (k := K.length + 1 - i) n53.ok (wn _ rfl) rfl e54 n53.at_ Try.underlying22 Try.underlying3 i55a i55b i55c i55d rfl (by omega) (SrcAt.own ho) (flatE_len encVr_ok K) (by omega) (by omega) (by omega) (by omega) (by omega) hz (fun an56 w57 b2 c2 Z g58 hb2 O2 hZ n56 => ?_)
  have hbsz : w.heap.size ≤ b2 := by rw [hb2]; exact (gb_self : w.grownBy w (some g)).size
  have hgb : b2 ≠ g := by have h1 := (SrcAt.own ho).1; rw [hb2]; omega
  have hb12 : b1 ≠ b2 := by have h1 := hb.lt; rw [hb2]; omega
  have G59 := hG.trans g58
  have B60 := hb.gr g58
  have z61 := Nat.le_trans hz g58.size
  have F62 := gb_gr (gb_self : w.grownBy w (some g)) g58
  have F63 := (SrcAt.own ho).gr g58
  obtain ⟨O2a, ek⟩ : World.ownsRow w57 base 32 8 (.slice (some ⟨b2, 0, none⟩) (K.length + 1) c2) (K.length + 1) ((flatE encVr K).take (i * 8) ++ Z) ∧ i + (K.length + 1 - i) = K.length + 1 := by have e : i + (K.length + 1 - i) = K.length + 1 := (by omega); rw [e] at O2; exact ⟨O2, e⟩
  have e64 := n56.at_
  rw [ek] at e64
  have holt2 : ∀ k, Value.ownBlock (.slice (some ⟨b2, 0, none⟩) (K.length + 1) c2) = some k → k ≠ b1 := fun k e q => hb12 (by rw [← q]; exact (Option.some.inj e).symm)
  refine sv n56.ok rfl (wn _ rfl) rfl (o_as e64) (fun an65 n65 => ?_)
  refine wpList_nil ?_
  refine th_n (hK40 _ _ ?_)
  refine wp_seq_k (fun K66 hK66 => ?_)
  refine wp_region_lit ?_
  refine sv n65.ok rfl (wn _ rfl) rfl (o_mv n65.at_) (fun an67 n67 => ?_)
  have e68 := n67.ne rfl (n65.ne rfl (n56.ne rfl (n53.ne rfl (n52.ne rfl e51))))
  refine sv n67.ok rfl (wn _ rfl) rfl (o_mv e68) (fun an69 n69 => ?_)
  refine sv n69.ok rfl (wn _ rfl) rfl (o_cutLt (k := i) (s := 8) (n69.ne rfl n67.at_) n69.at_ Try.underlying22 (by kernel_rfl) (by omega) (by have := ow_cap O2a; omega)) (fun an70 n70 => ?_)
  have e71 := n70.ne rfl (n69.ne rfl (n67.ne rfl (n65.ne rfl (n56.ne rfl (n53.ne rfl (n52.ne rfl (n50.ne rfl (n49.ne rfl (n47.ne rfl (n45.ne rfl (n44.ne rfl (n42.ne rfl (n38.ne rfl (n37.ne rfl (n36.ne rfl (n34.ne rfl (n33.ne rfl (n31.ne rfl (n26.ne rfl (n25.ne rfl (n24.ne rfl (n20.ne rfl (n19.ne rfl (n18.ne rfl (n15.ne rfl (n14.ne rfl (n11.ne rfl (n10.ne rfl (n9.ne rfl e8)))))))))))))))))))))))))))))
  refine sv n70.ok rfl (wn _ rfl) rfl (o_mv e71) (fun an72 n72 => ?_)
  refine s_cp (m := 1) (cs := encVr y) n72.ok (wn _ rfl) rfl (n72.ne rfl n70.at_) n72.at_ Try.underlying22 (by kernel_rfl) (by simp only [Nat.min_def]; split <;> omega) rfl O2a (by show _ + 8 ≤ _; omega) (fun j v hv => by rw [add_n, Nat.zero_add]; exact B60.cell _ (by simpa [encVr] using hv)) (encVr_ok.one y) (fun an73 w74 O76 gg75 n73 => ?_)
  have B77 := B60.grown_ne' gg75 holt2
  have G78 := Gr.grown G59 gg75 (fun k e => Nat.le_trans hB (ow_lt O2a k e))
  have z79 := Nat.le_trans z61 gg75.size
  have F80 := gb_new F62 gg75 hbsz
  have F81 := SrcAt.ne F63 gg75 (fun e => hgb (Option.some.inj e))
  refine wpList_nil ?_
  refine th_n (hK66 _ _ ?_)
  refine wp_seq_k (fun K82 hK82 => ?_)
  refine reg_start (N := 95) (m := 8) (by kernel_rfl) (fun R830 => ?_)
  have e84 := n73.ne rfl (n72.ne rfl (n70.ne rfl (n69.ne rfl (n67.ne rfl n65.at_))))
  have R831 := R830.snoc (n' := 1) rfl (fun vJ _ => vJ = .slice (some ⟨b2, 0, none⟩) (K.length + 1) c2) rfl (fun _ _ _ _ h => h) (fun aS wS pS => by
      exact Does.val (wn _ rfl) (o_mv ((pS.old 9 rfl).trans e84)) (Gr.refl _) rfl rfl)
  have e85 := n73.ne rfl (n72.ne rfl (n70.ne rfl (n69.ne rfl e68)))
  have R832 := R831.snoc (n' := 2) rfl (fun vJ _ => vJ = .int .i64 (i : Int)) rfl (fun _ _ _ _ h => h) (fun aS wS pS => by
      exact Does.val (wn _ rfl) (o_mv ((pS.old 1 rfl).trans e85)) (Gr.refl _) rfl rfl)
  have e86 := n73.ne rfl (n72.ne rfl (n70.ne rfl (n69.ne rfl (n67.ne rfl (n65.ne rfl (n56.ne rfl (n53.ne rfl (n52.ne rfl (n50.ne rfl (n49.ne rfl e48))))))))))
  have R833 := R832.snoc (n' := 3) rfl (fun vJ _ => vJ = .int .i64 1) rfl (fun _ _ _ _ h => h) (fun aS wS pS => by
      exact Does.val (wn _ rfl) (o_mv ((pS.old 7 rfl).trans e86)) (Gr.refl _) rfl rfl)
  have R834 := R833.snoc (n' := 4) rfl (fun vJ _ => vJ = .int .i64 ((i + 1 : Nat) : Int)) rfl (fun _ _ _ _ h => h) (fun aS wS pS => by
      have eR83_1 : aS.eval (.tmp 47) = .int .i64 (i : Int) := pS.pre 1 rfl
      have eR83_2 : aS.eval (.tmp 48) = .int .i64 1 := pS.pre 2 rfl
      exact Does.val (wn _ rfl) (o_add (r := ((i + 1 : Nat) : Int)) (eR83_1) (eR83_2) (by omega) (by omega)) (Gr.refl _) rfl rfl)
  have R835 := R834.snoc (n' := 5) rfl (fun vJ _ => vJ = .slice (some ⟨b2, 0 + (i + 1) * 8, none⟩) ((K.length + 1) - (i + 1)) (c2 - (i + 1))) rfl (fun _ _ _ _ h => h) (fun aS wS pS => by
      have eR83_0 : aS.eval (.tmp 46) = .slice (some ⟨b2, 0, none⟩) (K.length + 1) c2 := pS.pre 0 rfl
      have eR83_3 : aS.eval (.tmp 49) = .int .i64 ((i + 1 : Nat) : Int) := pS.pre 3 rfl
      exact Does.val (wn _ rfl) (o_cutLt (k := i + 1) (s := 8) (eR83_0) (eR83_3) Try.underlying22 (by kernel_rfl) (by omega) (by have := ow_cap O76; omega)) (Gr.refl _) rfl rfl)
  have e87 := n73.ne rfl (n72.ne rfl (n70.ne rfl (n69.ne rfl (n67.ne rfl (n65.ne rfl (n56.ne rfl (n53.ne rfl (n52.ne rfl (n50.ne rfl (n49.ne rfl (n47.ne rfl (n45.ne rfl (n44.ne rfl (n42.ne rfl e41))))))))))))))
  have R836 := R835.snoc (n' := 6) rfl (fun vJ _ => vJ = .slice (some ⟨g, 0, none⟩) K.length c) rfl (fun _ _ _ _ h => h) (fun aS wS pS => by
      exact Does.val (wn _ rfl) (o_mv ((pS.old 0 rfl).trans e87)) (Gr.refl _) rfl rfl)
  have R837 := R836.snoc (n' := 7) rfl (fun vJ _ => vJ = .int .i64 (i : Int)) rfl (fun _ _ _ _ h => h) (fun aS wS pS => by
      exact Does.val (wn _ rfl) (o_mv ((pS.old 1 rfl).trans e85)) (Gr.refl _) rfl rfl)
  have R838 := R837.snoc (n' := 8) rfl (fun vJ _ => vJ = .slice (some ⟨g, 0 + i * 8, none⟩) (K.length - i) (c - i)) rfl (fun _ _ _ _ h => h) (fun aS wS pS => by
      have eR83_5 : aS.eval (.tmp 51) = .slice (some ⟨g, 0, none⟩) K.length c := pS.pre 5 rfl
      have eR83_6 : aS.eval (.tmp 52) = .int .i64 (i : Int) := pS.pre 6 rfl
      exact Does.val (wn _ rfl) (o_cutLt (k := i) (s := 8) (eR83_5) (eR83_6) Try.underlying22 (by kernel_rfl) (by omega) (by omega)) (Gr.refl _) rfl rfl)
  refine R838.run (k := 1) (L := #[true, true, true, true, true, true, true, true, false]) (by kernel_rfl) (by kernel_rfl) (by kernel_rfl) n73.ok (by kernel_rfl) (by kernel_rfl) (fun ap89 w90 p89 => ?_)
  have g91 := gr_drew p89.gr
  have G92 := G78.trans g91
  have B93 := B77.gr g91
  have z94 := Nat.le_trans z79 g91.size
  have O95 := ow_gr O76 g91
  have F96 := gb_gr F80 g91
  have F97 := F81.gr g91
  have ep89_4 : ap89.eval (.tmp 50) = .slice (some ⟨b2, 0 + (i + 1) * 8, none⟩) ((K.length + 1) - (i + 1)) (c2 - (i + 1)) := p89.js 4 rfl
  have ep89_7 : ap89.eval (.tmp 53) = .slice (some ⟨g, 0 + i * 8, none⟩) (K.length - i) (c - i) := p89.js 7 rfl
  refine t_cp (i := 8) (by kernel_rfl) rfl (m := K.length - i) (cs := flatE encVr (K.drop i)) p89.ok (wn _ rfl) rfl ep89_4 ep89_7 Try.underlying22 (by kernel_rfl) (by simp only [Nat.min_def]; split <;> omega) (by rw [flatE_len encVr_ok, List.length_drop]) O95 (by rw [flatE_len encVr_ok, List.length_drop]; omega) (SrcAt.part F97 (fun j u hu => by have h := flat_drop (enc := encVr) (s := 8) encVr_ok (show i ≤ K.length by omega) [] j u hu; rw [List.append_nil] at h; exact h)) (flatE_cell encVr_ok _) (fun an98 w99 O101 gg100 n98 => ?_)
  have B102 := B93.grown_ne' gg100 holt2
  have G103 := Gr.grown G92 gg100 (fun k e => Nat.le_trans hB (ow_lt O95 k e))
  have z104 := Nat.le_trans z94 gg100.size
  have F105 := gb_new F96 gg100 hbsz
  have F106 := SrcAt.ne F97 gg100 (fun e => hgb (Option.some.inj e))
  refine wpAny_done (by kernel_rfl) ?_ _
  refine th_n (hK82 _ _ ?_)
  refine wp_seq_k (fun K107 hK107 => ?_)
  refine wp_region_lit ?_
  refine sv n98.ok rfl (wn _ rfl) rfl (o_mv (n98.ne rfl ((p89.old 9 rfl).trans e84))) (fun an108 n108 => ?_)
  refine sv n108.ok rfl (wn _ rfl) rfl (o_as n108.at_) (fun an109 n109 => ?_)
  refine wpList_nil ?_
  refine th_n (hK107 _ _ ?_)
  refine wp_ret ?_
  refine th_r ?_
  exact ret1 n109.ok rfl (n109.at_) ⟨_, rfl, by rw [← fin_grow encVr_ok (k := K.length + 1 - i) (by omega) rfl y Z hZ]; exact O101, F105⟩
end Go.Proofs.Ytoencnbpjjkjnaa

/- Stores as plain data: the order, what Put, Drop, Get leave. -/
set_option linter.unusedVariables false
set_option linter.unusedSimpArgs false
namespace Rm
open Go Go.RowKit Gx
theorem bl_irr : ∀ l : List UInt8, Op.bytesLess l l = false
  | [] => rfl
  | a :: l => by simp [Op.bytesLess, bl_irr l]
theorem bl_trans : ∀ a b c : List UInt8, Op.bytesLess a b = true → Op.bytesLess b c = true → Op.bytesLess a c = true
  | _, [], _, h, _ => by simp [Op.bytesLess] at h
  | _, _ :: _, [], _, k => by simp [Op.bytesLess] at k
  | [], _ :: _, _ :: _, _, _ => rfl
  | x :: a, y :: b, z :: c, h, k => by
    simp only [Op.bytesLess, Bool.or_eq_true, decide_eq_true_eq, Bool.and_eq_true, beq_iff_eq, UInt8.lt_iff_toNat_lt] at h k ⊢
    rcases h with h | ⟨rfl, h⟩
    · rcases k with k | ⟨rfl, k⟩
      · exact .inl (by omega)
      · exact .inl h
    · rcases k with k | ⟨rfl, k⟩
      · exact .inl k
      · exact .inr ⟨rfl, bl_trans a b c h k⟩
theorem bl_tri : ∀ a b : List UInt8, Op.bytesLess a b = false → Op.bytesLess b a = false → a = b
  | [], [], _, _ => rfl
  | [], _ :: _, h, _ => by simp [Op.bytesLess] at h
  | _ :: _, [], _, k => by simp [Op.bytesLess] at k
  | x :: a, y :: b, h, k => by
    simp only [Op.bytesLess, Bool.or_eq_false_iff, decide_eq_false_iff_not, Bool.and_eq_false_iff, UInt8.lt_iff_toNat_lt] at h k
    have e : x = y := UInt8.toNat_inj.1 (by omega)
    subst e
    rw [bl_tri a b (by simpa using h.2) (by simpa using k.2)]
theorem cmpS_lt (l m : List UInt8) : cmpS l m < 0 ↔ Op.bytesLess l m = true := by
  unfold cmpS
  by_cases h : Op.bytesLess l m = true
  · rw [if_pos h]; simp [h]
  · rw [if_neg h]
    split <;> simp [h]
theorem cmpS_eq (l m : List UInt8) : cmpS l m = 0 ↔ l = m := by
  unfold cmpS
  by_cases h : Op.bytesLess l m = true
  · rw [if_pos h]
    refine ⟨fun q => by simp at q, fun q => ?_⟩
    rw [q, bl_irr] at h; cases h
  · rw [if_neg h]
    have h' : Op.bytesLess l m = false := by simpa using h
    by_cases e : l = m
    · simp [e, bl_irr]
    · simp [e, h']
theorem orC_lt (x y : Int) : orC x y < 0 ↔ x < 0 ∨ x = 0 ∧ y < 0 := by
  unfold orC
  by_cases h : x = 0
  · simp [h]
  · rw [if_pos (by simpa using h)]; simp [h]
theorem orC_eq (x y : Int) : orC x y = 0 ↔ x = 0 ∧ y = 0 := by
  unfold orC
  by_cases h : x = 0
  · simp [h]
  · rw [if_pos (by simpa using h)]; simp [h]
theorem ci_lt (x y : Int) : Lib.compareInt x y < 0 ↔ x < y := by
  rcases cmpInt_cases x y with ⟨e, h⟩ | ⟨e, h⟩ | ⟨e, h⟩ <;> rw [e] <;> omega
theorem ci_eq (x y : Int) : Lib.compareInt x y = 0 ↔ x = y := by
  rcases cmpInt_cases x y with ⟨e, h⟩ | ⟨e, h⟩ | ⟨e, h⟩ <;> rw [e] <;> omega
def ltV (a b : VerD) : Prop := Op.bytesLess a.id b.id = true ∨ a.id = b.id ∧ (a.s < b.s ∨ a.s = b.s ∧ a.c < b.c)
def keyV (a b : VerD) : Prop := a.id = b.id ∧ a.s = b.s ∧ a.c = b.c
theorem cmpV_lt (a b : VerD) : cmpV a b < 0 ↔ ltV a b := by unfold cmpV ltV; rw [orC_lt, orC_lt, cmpS_lt, cmpS_eq, ci_lt, ci_eq, ci_lt]
theorem cmpV_eq (a b : VerD) : cmpV a b = 0 ↔ keyV a b := by unfold cmpV keyV; rw [orC_eq, orC_eq, cmpS_eq, ci_eq, ci_eq]
theorem ltV_irr (a : VerD) : ¬ ltV a a := by
  unfold ltV
  rw [bl_irr]
  simp
theorem ltV_trans {a b c : VerD} (h : ltV a b) (k : ltV b c) : ltV a c := by
  unfold ltV at *
  rcases h with h | ⟨h, h'⟩
  · rcases k with k | ⟨k, k'⟩
    · exact .inl (bl_trans _ _ _ h k)
    · exact .inl (by rw [← k]; exact h)
  · rcases k with k | ⟨k, k'⟩
    · exact .inl (by rw [h]; exact k)
    · exact .inr ⟨h.trans k, by omega⟩
theorem ltV_key {a b c : VerD} (h : ltV a b) (k : keyV b c) : ltV a c := by
  obtain ⟨k1, k2, k3⟩ := k
  unfold ltV at *
  rw [← k1, ← k2, ← k3]; exact h
theorem ltV_tri (a b : VerD) : ltV a b ∨ keyV a b ∨ ltV b a := by
  unfold ltV keyV
  by_cases h1 : Op.bytesLess a.id b.id = true
  · exact .inl (.inl h1)
  · by_cases h2 : Op.bytesLess b.id a.id = true
    · exact .inr (.inr (.inl h2))
    · have e := bl_tri a.id b.id (by simpa using h1) (by simpa using h2)
      rw [e]
      by_cases h3 : a.s < b.s ∨ a.s = b.s ∧ a.c < b.c
      · exact .inl (.inr ⟨rfl, h3⟩)
      · by_cases h4 : a.s = b.s ∧ a.c = b.c
        · exact .inr (.inl ⟨rfl, h4.1, h4.2⟩)
        · exact .inr (.inr (.inr ⟨rfl, by omega⟩))
/-- a store that may be -/
structure OkS (L : List VerD) : Prop where
  len : L.length ≤ 60
  one : ∀ x ∈ L, chkOne x = 0
  sort : L.Pairwise ltV
  apart : ∀ v ∈ L, ∀ x ∈ L, ovB v x = false
theorem chkRow_sort : ∀ {L : List VerD} {p : Option VerD}, chkRow p L = 0 → (∀ x ∈ L, chkOne x = 0) ∧ L.Pairwise ltV ∧ ∀ y, p = some y → ∀ x ∈ L, ltV y x
  | [], p, _ => ⟨fun x hx => (by cases hx), List.Pairwise.nil, fun y _ x hx => (by cases hx)⟩
  | a :: L, p, h => by
    unfold chkRow at h
    by_cases h1 : chkOne a = 0
    · rw [if_pos h1] at h
      by_cases h2 : (p.any fun y => decide (0 ≤ cmpV y a)) = true
      · rw [if_pos h2] at h; cases h
      · rw [if_neg h2] at h
        obtain ⟨k1, k2, k3⟩ := chkRow_sort h
        refine ⟨fun x hx => ?_, List.Pairwise.cons (fun x hx => k3 a rfl x hx) k2, fun y hy x hx => ?_⟩
        · rcases List.mem_cons.1 hx with rfl | hx
          · exact h1
          · exact k1 x hx
        · subst hy
          have hya : ltV y a := by
            rw [← cmpV_lt]
            simp only [Option.any_some, decide_eq_true_eq] at h2
            omega
          rcases List.mem_cons.1 hx with rfl | hx
          · exact hya
          · exact ltV_trans hya (k3 a rfl x hx)
    · rw [if_neg h1] at h
      exact absurd h h1
theorem chkRow_of : ∀ {L : List VerD} {p : Option VerD}, (∀ x ∈ L, chkOne x = 0) → L.Pairwise ltV → (∀ y, p = some y → ∀ x ∈ L, ltV y x) → chkRow p L = 0
  | [], _, _, _, _ => rfl
  | a :: L, p, h1, h2, h3 => by
    unfold chkRow
    rw [if_pos (h1 a (List.mem_cons_self ..)), if_neg]
    · refine chkRow_of (fun x hx => h1 x (List.mem_cons_of_mem _ hx)) (List.pairwise_cons.1 h2).2 (fun y hy x hx => ?_)
      cases hy
      exact (List.pairwise_cons.1 h2).1 x hx
    · cases p with
      | none => simp
      | some y =>
        have := (cmpV_lt y a).2 (h3 y rfl a (List.mem_cons_self ..))
        simp only [Option.any_some, decide_eq_true_eq]
        omega
theorem okS_iff (L : List VerD) : chkShf L = 0 ↔ OkS L := by
  unfold chkShf
  constructor
  · intro h
    by_cases h1 : 60 < L.length
    · rw [if_pos h1] at h; cases h
    · rw [if_neg h1] at h
      by_cases h2 : chkRow none L = 0
      · rw [if_pos h2] at h
        by_cases h3 : (L.any fun v => L.any fun x => ovB v x) = true
        · rw [if_pos h3] at h; cases h
        · obtain ⟨k1, k2, -⟩ := chkRow_sort h2
          refine ⟨by omega, k1, k2, fun v hv x hx => ?_⟩
          cases q : ovB v x
          · rfl
          · exact absurd (List.any_eq_true.2 ⟨v, hv, List.any_eq_true.2 ⟨x, hx, q⟩⟩) h3
      · rw [if_neg h2] at h; exact absurd h h2
  · intro h
    rw [if_neg (by have := h.len; omega), if_pos (chkRow_of h.one h.sort (fun y hy => by cases hy)), if_neg]
    intro q
    obtain ⟨v, hv, q⟩ := List.any_eq_true.1 q
    obtain ⟨x, hx, q⟩ := List.any_eq_true.1 q
    rw [h.apart v hv x hx] at q
    cases q
/-- P38: it is there, or something that supersedes it -/
def svHeld (L : List VerD) (y : VerD) : Bool := L.any (fun x => decide (cmpV x y = 0)) || L.any (fun x => ovB x y)
def svKeep (L : List VerD) (y : VerD) : List VerD := L.filter fun x => !ovB y x
def svIns (L : List VerD) (y : VerD) : List VerD := (L.filter fun x => decide (cmpV x y < 0)) ++ y :: L.filter fun x => !decide (cmpV x y < 0)
def putE (L : List VerD) (y : VerD) : Int := if chkShf L = 0 then (if chkOne y = 0 then (if svHeld L y = true then 0 else if (svKeep L y).length = 60 then 2 else 0) else chkOne y) else chkShf L
def putL (L : List VerD) (y : VerD) : List VerD := if chkShf L = 0 then (if chkOne y = 0 then (if svHeld L y = true then L else if (svKeep L y).length = 60 then [] else svIns (svKeep L y) y) else []) else []
theorem cut_at {L : List VerD} {y : VerD} {i : Nat} (hi : i ≤ L.length) (h1 : ∀ (k : Nat) (x : VerD), k < i → L[k]? = some x → cmpV x y < 0) (h2 : ∀ (k : Nat) (x : VerD), i ≤ k → L[k]? = some x → 0 ≤ cmpV x y) : L.take i ++ y :: L.drop i = svIns L y := by
  have e1 : (L.filter fun x => decide (cmpV x y < 0)) = L.take i := by
    conv => lhs; rw [← List.take_append_drop i L]
    rw [List.filter_append, List.filter_eq_self.2, List.filter_eq_nil_iff.2, List.append_nil]
    · intro x hx
      obtain ⟨k, hk⟩ := List.getElem?_of_mem hx
      rw [List.getElem?_drop] at hk
      have := h2 (i + k) x (by omega) hk
      simp; omega
    · intro x hx
      obtain ⟨k, hk⟩ := List.getElem?_of_mem hx
      have hlt : k < i := by have := (List.getElem?_eq_some_iff.1 hk).1; rw [List.length_take] at this; omega
      rw [List.getElem?_take_of_lt hlt] at hk
      simpa using h1 k x hlt hk
  have e2 : (L.filter fun x => !decide (cmpV x y < 0)) = L.drop i := by
    conv => lhs; rw [← List.take_append_drop i L]
    rw [List.filter_append, List.filter_eq_nil_iff.2, List.filter_eq_self.2, List.nil_append]
    · intro x hx
      obtain ⟨k, hk⟩ := List.getElem?_of_mem hx
      rw [List.getElem?_drop] at hk
      have := h2 (i + k) x (by omega) hk
      simp; omega
    · intro x hx
      obtain ⟨k, hk⟩ := List.getElem?_of_mem hx
      have hlt : k < i := by have := (List.getElem?_eq_some_iff.1 hk).1; rw [List.length_take] at this; omega
      rw [List.getElem?_take_of_lt hlt] at hk
      simpa using h1 k x hlt hk
  unfold svIns
  rw [e1, e2]
theorem sort_at {L : List VerD} (h : L.Pairwise ltV) {j k : Nat} {x z : VerD} (hjk : j ≤ k) (hx : L[j]? = some x) (hz : L[k]? = some z) {y : VerD} (hy : cmpV z y < 0) : cmpV x y < 0 := by
  rw [cmpV_lt] at *
  rcases Nat.lt_or_ge j k with q | q
  · obtain ⟨h1, e1⟩ := List.getElem?_eq_some_iff.1 hx
    obtain ⟨h2, e2⟩ := List.getElem?_eq_some_iff.1 hz
    have := List.pairwise_iff_getElem.1 h j k h1 h2 q
    rw [e1, e2] at this
    exact ltV_trans this hy
  · obtain rfl : j = k := by omega
    rw [hx] at hz; cases hz
    exact hy
theorem svKeep_ok {L : List VerD} (h : OkS L) (p : VerD → Bool) : OkS (L.filter p) where
  len := Nat.le_trans (List.length_filter_le _ _) h.len
  one := fun x hx => h.one x (List.mem_filter.1 hx).1
  sort := h.sort.filter _
  apart := fun v hv x hx => h.apart v (List.mem_filter.1 hv).1 x (List.mem_filter.1 hx).1
theorem ovB_self {y : VerD} (h : chkOne y = 0) : ovB y y = false := by
  unfold ovB
  rw [(chkOne_zero h).2.2.2]
  simp
theorem svIns_mem {L : List VerD} {y x : VerD} : x ∈ svIns L y ↔ x = y ∨ x ∈ L := by
  unfold svIns
  simp only [List.mem_append, List.mem_cons, List.mem_filter]
  by_cases h : cmpV x y < 0 <;> simp [h, Or.comm]
theorem filter_len2 {α : Type} (p : α → Bool) : ∀ L : List α, (L.filter p).length + (L.filter fun x => !p x).length = L.length
  | [] => rfl
  | a :: L => by
    have := filter_len2 p L
    cases h : p a <;> simp [h] <;> omega
theorem svIns_len (L : List VerD) (y : VerD) : (svIns L y).length = L.length + 1 := by
  unfold svIns
  rw [List.length_append, List.length_cons]
  have := filter_len2 (fun x => decide (cmpV x y < 0)) L
  omega
/-- what Put leaves may be -/
theorem svPut_ok {L : List VerD} {y : VerD} (h : OkS L) (hy : chkOne y = 0) (hh : svHeld L y = false) (hl : ¬ (svKeep L y).length = 60) : OkS (svIns (svKeep L y) y) := by
  have hk := svKeep_ok h (fun x => !ovB y x)
  unfold svHeld at hh
  rw [Bool.or_eq_false_iff] at hh
  have h1 : ∀ x ∈ L, ¬ keyV x y := fun x hx q => by
    have := List.any_eq_false.1 hh.1 x hx
    rw [decide_eq_true_eq, cmpV_eq] at this
    exact this q
  have h2 : ∀ x ∈ L, ovB x y = false := fun x hx => by simpa using List.any_eq_false.1 hh.2 x hx
  have h3 : ∀ x ∈ svKeep L y, x ∈ L ∧ ovB y x = false := fun x hx => by
    obtain ⟨k1, k2⟩ := List.mem_filter.1 hx
    exact ⟨k1, by simpa using k2⟩
  refine ⟨by rw [svIns_len]; have := hk.len; unfold svKeep at hl ⊢; omega, fun x hx => ?_, ?_, fun v hv x hx => ?_⟩
  · rcases svIns_mem.1 hx with rfl | hx
    · exact hy
    · exact hk.one x hx
  · unfold svIns
    refine List.pairwise_append.2 ⟨hk.sort.filter _, List.pairwise_cons.2 ⟨fun x hx => ?_, hk.sort.filter _⟩, fun x hx z hz => ?_⟩
    · obtain ⟨k1, k2⟩ := List.mem_filter.1 hx
      have hn : ¬ ltV x y := by rw [← cmpV_lt]; simpa using k2
      rcases ltV_tri x y with q | q | q
      · exact absurd q hn
      · exact absurd q (h1 x (h3 x k1).1)
      · exact q
    · obtain ⟨k1, k2⟩ := List.mem_filter.1 hx
      have hxy : ltV x y := by rw [← cmpV_lt]; simpa using k2
      rcases List.mem_cons.1 hz with rfl | hz
      · exact hxy
      · obtain ⟨k3, k4⟩ := List.mem_filter.1 hz
        have hn : ¬ ltV z y := by rw [← cmpV_lt]; simpa using k4
        rcases ltV_tri z y with q | q | q
        · exact absurd q hn
        · exact absurd q (h1 z (h3 z k3).1)
        · exact ltV_trans hxy q
  · rcases svIns_mem.1 hv with rfl | hv
    · rcases svIns_mem.1 hx with rfl | hx
      · exact ovB_self hy
      · exact (h3 x hx).2
    · rcases svIns_mem.1 hx with rfl | hx
      · exact h2 v (h3 v hv).1
      · exact hk.apart v hv x hx
end Rm
namespace Go.Proofs.Ytoencnbpjjkjnaa
open Go.RowKit Rm Gx
/-- an answer: versions in new memory -/
def ResV (base : Nat) (w : World) (u : Value) (L : List VerD) : Prop := ∃ R : List VerI, R.map VerI.d = L ∧ w.ownsRow base 32 8 u R.length (flatE encVr R) ∧ OwnsVr base w R
theorem ResV.nil (base : Nat) (w : World) : ResV base w (.slice none 0 0) [] := ⟨[], rfl, World.ownsRow_nil _ _ _ _, fun x hx => by cases hx⟩
theorem insert_any (K : List VerI) (y : VerI) (v : Value) (b1 base i : Nat) (hl : K.length ≤ 900) (hi : i ≤ K.length) (w0 w : World) (hG : Gr w0 w) (hB : w0.heap.size ≤ base) (hz : base ≤ w.heap.size) (ho : w.ownsRow base 32 8 v K.length (flatE encVr K)) (hb : Bk w b1 (encVr y).toArray 32) (holt : ∀ k, v.ownBlock = some k → k < b1) :
    Calls Try.prog 72 #[v, .int .i64 (i : Int), .slice (some ⟨b1, 0, none⟩) 1 1] w fun e w' => ∃ u, e = .returned u ∧ w'.ownsRow base 32 8 u (K.length + 1) (flatE encVr (K.take i ++ y :: K.drop i)) ∧ w.grownBy w' v.ownBlock := by
  obtain ⟨-, ⟨rfl, hn⟩ | ⟨g, cap, cur, rfl, h3, hg, h4, h5, h6, h7⟩⟩ := id ho
  · obtain rfl : K = [] := List.eq_nil_of_length_eq_zero hn
    obtain rfl : i = 0 := by simpa using hi
    exact insert_none y b1 base w0 w hG hB hz ho hb holt
  · rcases Nat.lt_or_ge i K.length with q | q
    · rcases Nat.lt_or_ge cap (K.length + 1) with r | r
      · exact insert_grow K y g cap b1 base i hl q r w0 w hG hB hz ho hb holt
      · exact insert_room K y g cap b1 base i hl q r w0 w hG hB hz ho hb holt
    · exact insert_end K y g cap b1 base i hl (by omega) w0 w hG hB hz ho hb holt
end Go.Proofs.Ytoencnbpjjkjnaa

/- shelf.Put, Drop, Get. -/
set_option linter.unusedVariables false
set_option linter.unusedSimpArgs false
namespace Rm
open Go Go.RowKit Gx
theorem map_at {K : List VerI} {j : Nat} {x : VerI} (h : K[j]? = some x) : (K.map VerI.d)[j]? = some x.d := by rw [List.getElem?_map, h]; rfl
theorem map_of {K : List VerI} {j : Nat} {y : VerD} (h : (K.map VerI.d)[j]? = some y) : ∃ x, K[j]? = some x ∧ x.d = y := by
  rw [List.getElem?_map] at h
  exact Option.map_eq_some_iff.1 h
theorem there_eq {K : List VerI} {y : VerI} {i : Nat} {b : Bool} (h1 : ∀ (k : Nat) (x : VerI), k < i → K[k]? = some x → cmpV x.d y.d < 0) (h2 : ∀ (k : Nat) (x : VerI), i ≤ k → K[k]? = some x → 0 ≤ cmpV x.d y.d) (hs : (K.map VerI.d).Pairwise ltV) (hb : b = true ↔ ∃ x, K[i]? = some x ∧ cmpV x.d y.d = 0) : b = K.any fun x => decide (cmpV x.d y.d = 0) := by
  rw [Bool.eq_iff_iff, hb, List.any_eq_true]
  constructor
  · rintro ⟨x, hx, e⟩
    exact ⟨x, List.mem_of_getElem? hx, by simpa using e⟩
  · rintro ⟨x, hx, e⟩
    obtain ⟨k, hk⟩ := List.getElem?_of_mem hx
    have e' : cmpV x.d y.d = 0 := by simpa using e
    have hki : i ≤ k := by
      rcases Nat.lt_or_ge k i with q | q
      · have := h1 k x q hk; omega
      · exact q
    rcases Nat.lt_or_ge i k with q | q
    · exfalso
      have hlt : i < K.length := by have := (List.getElem?_eq_some_iff.1 hk).1; omega
      have hz : K[i]? = some K[i] := List.getElem?_eq_getElem hlt
      have h3 := h2 i _ (Nat.le_refl _) hz
      obtain ⟨a1, a2⟩ := List.getElem?_eq_some_iff.1 (map_at hz)
      obtain ⟨b1, b2⟩ := List.getElem?_eq_some_iff.1 (map_at hk)
      have h4 := List.pairwise_iff_getElem.1 hs i k a1 b1 q
      rw [a2, b2] at h4
      have h5 := ltV_key h4 ((cmpV_eq _ _).1 e')
      rw [← cmpV_lt] at h5
      omega
    · obtain rfl : k = i := by omega
      exact ⟨x, hk, e'⟩
theorem held_map (K : List VerI) (y : VerD) : svHeld (K.map VerI.d) y = ((K.any fun x => decide (cmpV x.d y = 0)) || K.any fun x => ovB x.d y) := by
  unfold svHeld
  rw [List.any_map, List.any_map]
  rfl
theorem filt_map (K : List VerI) (p : VerD → Bool) : (K.filter fun x => p x.d).map VerI.d = (K.map VerI.d).filter p := by
  induction K with
  | nil => rfl
  | cons a K ih =>
    rw [List.map_cons, List.filter_cons, List.filter_cons]
    cases h : p a.d <;> simp [h, ih]
theorem all_keep {α : Type} (L : List α) : (L.filter fun _ => !false) = L := List.filter_eq_self.2 (fun _ _ => rfl)
end Rm
namespace Go.Proofs.Ytoencnbpjjkjnaa
open Go.RowKit Rm Gx
theorem ow_lessb {w : World} {base base' s n : Nat} {e : TypeId} {v : Value} {xs : List Value} (h : w.ownsRow base e s v n xs) (hb : base' ≤ base) : w.ownsRow base' e s v n xs := by
  obtain ⟨h1, h2 | ⟨g, cap, cur, h3, h4, h5⟩⟩ := h
  · exact ⟨h1, .inl h2⟩
  · exact ⟨h1, .inr ⟨g, cap, cur, h3, Nat.le_trans hb h4, h5⟩⟩
theorem OwnsVr.ins {base : Nat} {w : World} {R : List VerI} {y : VerI} (h : OwnsVr base w R) (hy : OwnVr base w y) (i : Nat) : OwnsVr base w (R.take i ++ y :: R.drop i) := fun x hx => by
  rcases List.mem_append.1 hx with hx | hx
  · exact h x (List.mem_of_mem_take hx)
  · rcases List.mem_cons.1 hx with rfl | hx
    · exact hy
    · exact h x (List.mem_of_mem_drop hx)
set_option maxHeartbeats 8000000 in
set_option maxRecDepth 100000 in
theorem sput_bad (K : List VerI) (y : VerI) (va : Option Addr) (vc : Nat) (hK : ¬ chkShf (K.map VerI.d) = 0) (w : World) (hv : RdA encVr 8 w va K) (hm : MeansV w K) (hmy : MeanV w y) :
    Calls Try.prog 34 #[.slice va K.length vc, .agg #[.string (bs y.d.id), .int .i64 (y.d.s), .int .i64 (y.d.c), .int .i64 (y.d.t), .int .i64 (y.d.n), .int .i64 (y.d.b), .slice y.va y.d.V.length y.vc, .slice y.ma y.d.M.length y.mc]] w fun e w' => ∃ u, e = .returned (.tuple #[u, .int .i64 (putE (K.map VerI.d) y.d)]) ∧ ResV w.heap.size w' u (putL (K.map VerI.d) y.d) ∧ Gr w w' := by
  refine enter (N := 58) Try.func34 rfl rfl rfl (fun a0 ok0 h0 => ?_)
  have e0_0 : a0.eval (.tmp 0) = .slice va K.length vc := h0 0 _ rfl
  have e0_1 : a0.eval (.tmp 1) = .agg #[.string (bs y.d.id), .int .i64 (y.d.s), .int .i64 (y.d.c), .int .i64 (y.d.t), .int .i64 (y.d.n), .int .i64 (y.d.b), .slice y.va y.d.V.length y.vc, .slice y.ma y.d.M.length y.mc] := h0 1 _ rfl
  clear h0
  have G0 := Gr.refl w
  refine wp_seq_k (fun K1 hK1 => ?_)
  refine wp_region_lit ?_
  refine sal (cs := #[.string (bs y.d.id), .int .i64 (y.d.s), .int .i64 (y.d.c), .int .i64 (y.d.t), .int .i64 (y.d.n), .int .i64 (y.d.b), .slice y.va y.d.V.length y.vc, .slice y.ma y.d.M.length y.mc]) ok0 rfl (wn _ rfl) rfl (o_box e0_1) (fun an2 w4 b3 W5 n2 => ?_)
  have l6 : w.heap.size ≤ b3 := by rw [W5.eq]; exact G0.size
  have G7 := G0.trans W5.gr
  refine sv n2.ok rfl (wn _ rfl) rfl (o_as ev_const) (fun an8 n8 => ?_)
  refine sv n8.ok rfl (wn _ rfl) rfl (o_as ev_const) (fun an9 n9 => ?_)
  refine wpList_nil ?_
  refine th_n (hK1 _ _ ?_)
  refine wp_seq_k (fun K10 hK10 => ?_)
  refine wp_seq_k (fun K11 hK11 => ?_)
  refine wp_region_lit ?_
  have e12 := n9.ne rfl (n8.ne rfl (n2.ne rfl e0_0))
  refine sv n9.ok rfl (wn _ rfl) rfl (o_mv e12) (fun an13 n13 => ?_)
  refine sc n13.ok rfl (wn _ rfl) rfl (o_f1 Try.func17 rfl rfl rfl n13.at_) (vchk_any K va vc w4 (hv.gr G7) (hm.gr G7)) ?_
  rintro _ w15 ⟨rfl, g16⟩
  refine ⟨_, rfl, fun an14 n14 => ?_⟩
  have G17 := G7.trans g16
  have B18 := W5.bk.gr g16
  refine sv n14.ok rfl (wn _ rfl) rfl (o_as n14.at_) (fun an19 n19 => ?_)
  refine wpList_nil ?_
  refine th_n (hK11 _ _ ?_)
  refine wp_seq_k (fun K20 hK20 => ?_)
  refine wp_region_lit ?_
  refine sv n19.ok rfl (wn _ rfl) rfl (o_mv n19.at_) (fun an21 n21 => ?_)
  refine sv n21.ok rfl (wn _ rfl) rfl (o_neq (b := true) n21.at_ ev_const (by simp [show ¬ (chkShf (K.map VerI.d)) = 0 from hK])) (fun an22 n22 => ?_)
  refine wpList_nil ?_
  refine th_n (hK20 _ _ ?_)
  refine wp_cond_true (n22.at_) ?_
  refine wp_seq_k (fun K23 hK23 => ?_)
  refine wp_region_lit ?_
  refine sv n22.ok rfl (wn _ rfl) rfl (o_mv (n22.ne rfl (n21.ne rfl n19.at_))) (fun an24 n24 => ?_)
  refine sv n24.ok rfl (wn _ rfl) rfl (o_as ev_const) (fun an25 n25 => ?_)
  refine sv n25.ok rfl (wn _ rfl) rfl (o_as (n25.ne rfl n24.at_)) (fun an26 n26 => ?_)
  refine wpList_nil ?_
  refine th_n (hK23 _ _ ?_)
  refine wp_ret ?_
  refine th_r ?_
  exact ret2 n26.ok rfl ((n26.ne rfl n25.at_)) (n26.at_) ⟨_, congrArg (fun n => Ending.returned (.tuple #[_, .int .i64 n])) (Eq.symm (by unfold putE; rw [if_neg hK])), by unfold putL; rw [if_neg hK]; exact ResV.nil _ _, G17⟩
set_option maxHeartbeats 8000000 in
set_option maxRecDepth 100000 in
theorem sput_badv (K : List VerI) (y : VerI) (va : Option Addr) (vc : Nat) (hK : OkS (K.map VerI.d)) (hy : ¬ chkOne y.d = 0) (w : World) (hv : RdA encVr 8 w va K) (hm : MeansV w K) (hmy : MeanV w y) :
    Calls Try.prog 34 #[.slice va K.length vc, .agg #[.string (bs y.d.id), .int .i64 (y.d.s), .int .i64 (y.d.c), .int .i64 (y.d.t), .int .i64 (y.d.n), .int .i64 (y.d.b), .slice y.va y.d.V.length y.vc, .slice y.ma y.d.M.length y.mc]] w fun e w' => ∃ u, e = .returned (.tuple #[u, .int .i64 (putE (K.map VerI.d) y.d)]) ∧ ResV w.heap.size w' u (putL (K.map VerI.d) y.d) ∧ Gr w w' := by
  refine enter (N := 58) Try.func34 rfl rfl rfl (fun a0 ok0 h0 => ?_)
  have e0_0 : a0.eval (.tmp 0) = .slice va K.length vc := h0 0 _ rfl
  have e0_1 : a0.eval (.tmp 1) = .agg #[.string (bs y.d.id), .int .i64 (y.d.s), .int .i64 (y.d.c), .int .i64 (y.d.t), .int .i64 (y.d.n), .int .i64 (y.d.b), .slice y.va y.d.V.length y.vc, .slice y.ma y.d.M.length y.mc] := h0 1 _ rfl
  clear h0
  have G0 := Gr.refl w
  have hlen : K.length ≤ 60 := by have := hK.len; simpa using this
  have hok : ∀ x ∈ K, okVr x := fun x hx => hK.one _ (List.mem_map_of_mem hx)
  refine wp_seq_k (fun K1 hK1 => ?_)
  refine wp_region_lit ?_
  refine sal (cs := #[.string (bs y.d.id), .int .i64 (y.d.s), .int .i64 (y.d.c), .int .i64 (y.d.t), .int .i64 (y.d.n), .int .i64 (y.d.b), .slice y.va y.d.V.length y.vc, .slice y.ma y.d.M.length y.mc]) ok0 rfl (wn _ rfl) rfl (o_box e0_1) (fun an2 w4 b3 W5 n2 => ?_)
  have l6 : w.heap.size ≤ b3 := by rw [W5.eq]; exact G0.size
  have G7 := G0.trans W5.gr
  refine sv n2.ok rfl (wn _ rfl) rfl (o_as ev_const) (fun an8 n8 => ?_)
  refine sv n8.ok rfl (wn _ rfl) rfl (o_as ev_const) (fun an9 n9 => ?_)
  refine wpList_nil ?_
  refine th_n (hK1 _ _ ?_)
  refine wp_seq_k (fun K10 hK10 => ?_)
  refine wp_seq_k (fun K11 hK11 => ?_)
  refine wp_region_lit ?_
  have e12 := n9.ne rfl (n8.ne rfl (n2.ne rfl e0_0))
  refine sv n9.ok rfl (wn _ rfl) rfl (o_mv e12) (fun an13 n13 => ?_)
  refine sc n13.ok rfl (wn _ rfl) rfl (o_f1 Try.func17 rfl rfl rfl n13.at_) (by have h := vchk_any K va vc w4 (hv.gr G7) (hm.gr G7); rw [(okS_iff _).2 hK] at h; exact h) ?_
  rintro _ w15 ⟨rfl, g16⟩
  refine ⟨_, rfl, fun an14 n14 => ?_⟩
  have G17 := G7.trans g16
  have B18 := W5.bk.gr g16
  refine sv n14.ok rfl (wn _ rfl) rfl (o_as n14.at_) (fun an19 n19 => ?_)
  refine wpList_nil ?_
  refine th_n (hK11 _ _ ?_)
  refine wp_seq_k (fun K20 hK20 => ?_)
  refine wp_region_lit ?_
  refine sv n19.ok rfl (wn _ rfl) rfl (o_mv n19.at_) (fun an21 n21 => ?_)
  refine sv n21.ok rfl (wn _ rfl) rfl (o_neq (b := false) n21.at_ ev_const (by decide)) (fun an22 n22 => ?_)
  refine wpList_nil ?_
  refine th_n (hK20 _ _ ?_)
  refine wp_cond_false (n22.at_) ?_
  refine wp_skip ?_
  refine th_n (hK10 _ _ ?_)
  refine wp_seq_k (fun K23 hK23 => ?_)
  refine wp_seq_k (fun K24 hK24 => ?_)
  refine wp_region_lit ?_
  have e25 := n22.ne rfl (n21.ne rfl (n19.ne rfl (n14.ne rfl (n13.ne rfl (n9.ne rfl (n8.ne rfl n2.at_))))))
  refine sv n22.ok rfl (wn _ rfl) rfl (o_ldR e25 B18 Try.underlying32 rfl (by kernel_rfl)) (fun an26 n26 => ?_)
  refine sc n26.ok rfl (wn _ rfl) rfl (o_f1 Try.func15 rfl rfl rfl n26.at_) (vone_any y w15 (hmy.gr G17)) ?_
  rintro _ w28 ⟨rfl, g29⟩
  refine ⟨_, rfl, fun an27 n27 => ?_⟩
  have G30 := G17.trans g29
  have B31 := B18.gr g29
  refine sv n27.ok rfl (wn _ rfl) rfl (o_as n27.at_) (fun an32 n32 => ?_)
  refine wpList_nil ?_
  refine th_n (hK24 _ _ ?_)
  refine wp_seq_k (fun K33 hK33 => ?_)
  refine wp_region_lit ?_
  refine sv n32.ok rfl (wn _ rfl) rfl (o_mv n32.at_) (fun an34 n34 => ?_)
  refine sv n34.ok rfl (wn _ rfl) rfl (o_neq (b := true) n34.at_ ev_const (by simp [show ¬ (chkOne y.d) = 0 from hy])) (fun an35 n35 => ?_)
  refine wpList_nil ?_
  refine th_n (hK33 _ _ ?_)
  refine wp_cond_true (n35.at_) ?_
  refine wp_seq_k (fun K36 hK36 => ?_)
  refine wp_region_lit ?_
  refine sv n35.ok rfl (wn _ rfl) rfl (o_mv (n35.ne rfl (n34.ne rfl n32.at_))) (fun an37 n37 => ?_)
  refine sv n37.ok rfl (wn _ rfl) rfl (o_as ev_const) (fun an38 n38 => ?_)
  refine sv n38.ok rfl (wn _ rfl) rfl (o_as (n38.ne rfl n37.at_)) (fun an39 n39 => ?_)
  refine wpList_nil ?_
  refine th_n (hK36 _ _ ?_)
  refine wp_ret ?_
  refine th_r ?_
  exact ret2 n39.ok rfl ((n39.ne rfl n38.at_)) (n39.at_) ⟨_, congrArg (fun n => Ending.returned (.tuple #[_, .int .i64 n])) (Eq.symm (by unfold putE; rw [if_pos ((okS_iff _).2 hK), if_neg hy])), by unfold putL; rw [if_pos ((okS_iff _).2 hK), if_neg hy]; exact ResV.nil _ _, G30⟩
set_option maxHeartbeats 8000000 in
set_option maxRecDepth 100000 in
theorem sput_ok (K : List VerI) (y : VerI) (va : Option Addr) (vc : Nat) (hK : OkS (K.map VerI.d)) (hy : okVr y) (w : World) (hv : RdA encVr 8 w va K) (hm : MeansV w K) (hmy : MeanV w y) :
    Calls Try.prog 34 #[.slice va K.length vc, .agg #[.string (bs y.d.id), .int .i64 (y.d.s), .int .i64 (y.d.c), .int .i64 (y.d.t), .int .i64 (y.d.n), .int .i64 (y.d.b), .slice y.va y.d.V.length y.vc, .slice y.ma y.d.M.length y.mc]] w fun e w' => ∃ u, e = .returned (.tuple #[u, .int .i64 (putE (K.map VerI.d) y.d)]) ∧ ResV w.heap.size w' u (putL (K.map VerI.d) y.d) ∧ Gr w w' := by
  refine enter (N := 58) Try.func34 rfl rfl rfl (fun a0 ok0 h0 => ?_)
  have e0_0 : a0.eval (.tmp 0) = .slice va K.length vc := h0 0 _ rfl
  have e0_1 : a0.eval (.tmp 1) = .agg #[.string (bs y.d.id), .int .i64 (y.d.s), .int .i64 (y.d.c), .int .i64 (y.d.t), .int .i64 (y.d.n), .int .i64 (y.d.b), .slice y.va y.d.V.length y.vc, .slice y.ma y.d.M.length y.mc] := h0 1 _ rfl
  clear h0
  have G0 := Gr.refl w
  have hlen : K.length ≤ 60 := by have := hK.len; simpa using this
  have hok : ∀ x ∈ K, okVr x := fun x hx => hK.one _ (List.mem_map_of_mem hx)
  refine wp_seq_k (fun K1 hK1 => ?_)
  refine wp_region_lit ?_
  refine sal (cs := #[.string (bs y.d.id), .int .i64 (y.d.s), .int .i64 (y.d.c), .int .i64 (y.d.t), .int .i64 (y.d.n), .int .i64 (y.d.b), .slice y.va y.d.V.length y.vc, .slice y.ma y.d.M.length y.mc]) ok0 rfl (wn _ rfl) rfl (o_box e0_1) (fun an2 w4 b3 W5 n2 => ?_)
  have l6 : w.heap.size ≤ b3 := by rw [W5.eq]; exact G0.size
  have G7 := G0.trans W5.gr
  refine sv n2.ok rfl (wn _ rfl) rfl (o_as ev_const) (fun an8 n8 => ?_)
  refine sv n8.ok rfl (wn _ rfl) rfl (o_as ev_const) (fun an9 n9 => ?_)
  refine wpList_nil ?_
  refine th_n (hK1 _ _ ?_)
  refine wp_seq_k (fun K10 hK10 => ?_)
  refine wp_seq_k (fun K11 hK11 => ?_)
  refine wp_region_lit ?_
  have e12 := n9.ne rfl (n8.ne rfl (n2.ne rfl e0_0))
  refine sv n9.ok rfl (wn _ rfl) rfl (o_mv e12) (fun an13 n13 => ?_)
  refine sc n13.ok rfl (wn _ rfl) rfl (o_f1 Try.func17 rfl rfl rfl n13.at_) (by have h := vchk_any K va vc w4 (hv.gr G7) (hm.gr G7); rw [(okS_iff _).2 hK] at h; exact h) ?_
  rintro _ w15 ⟨rfl, g16⟩
  refine ⟨_, rfl, fun an14 n14 => ?_⟩
  have G17 := G7.trans g16
  have B18 := W5.bk.gr g16
  refine sv n14.ok rfl (wn _ rfl) rfl (o_as n14.at_) (fun an19 n19 => ?_)
  refine wpList_nil ?_
  refine th_n (hK11 _ _ ?_)
  refine wp_seq_k (fun K20 hK20 => ?_)
  refine wp_region_lit ?_
  refine sv n19.ok rfl (wn _ rfl) rfl (o_mv n19.at_) (fun an21 n21 => ?_)
  refine sv n21.ok rfl (wn _ rfl) rfl (o_neq (b := false) n21.at_ ev_const (by decide)) (fun an22 n22 => ?_)
  refine wpList_nil ?_
  refine th_n (hK20 _ _ ?_)
  refine wp_cond_false (n22.at_) ?_
  refine wp_skip ?_
  refine th_n (hK10 _ _ ?_)
  refine wp_seq_k (fun K23 hK23 => ?_)
  refine wp_seq_k (fun K24 hK24 => ?_)
  refine wp_region_lit ?_
  have e25 := n22.ne rfl (n21.ne rfl (n19.ne rfl (n14.ne rfl (n13.ne rfl (n9.ne rfl (n8.ne rfl n2.at_))))))
  refine sv n22.ok rfl (wn _ rfl) rfl (o_ldR e25 B18 Try.underlying32 rfl (by kernel_rfl)) (fun an26 n26 => ?_)
  refine sc n26.ok rfl (wn _ rfl) rfl (o_f1 Try.func15 rfl rfl rfl n26.at_) (by have h := vone_any y w15 (hmy.gr G17); rw [show chkOne y.d = 0 from hy] at h; exact h) ?_
  rintro _ w28 ⟨rfl, g29⟩
  refine ⟨_, rfl, fun an27 n27 => ?_⟩
  have G30 := G17.trans g29
  have B31 := B18.gr g29
  refine sv n27.ok rfl (wn _ rfl) rfl (o_as n27.at_) (fun an32 n32 => ?_)
  refine wpList_nil ?_
  refine th_n (hK24 _ _ ?_)
  refine wp_seq_k (fun K33 hK33 => ?_)
  refine wp_region_lit ?_
  refine sv n32.ok rfl (wn _ rfl) rfl (o_mv n32.at_) (fun an34 n34 => ?_)
  refine sv n34.ok rfl (wn _ rfl) rfl (o_neq (b := false) n34.at_ ev_const (by decide)) (fun an35 n35 => ?_)
  refine wpList_nil ?_
  refine th_n (hK33 _ _ ?_)
  refine wp_cond_false (n35.at_) ?_
  refine wp_skip ?_
  refine th_n (hK23 _ _ ?_)
  refine wp_seq_k (fun K36 hK36 => ?_)
  refine wp_region_lit ?_
  have e37 := n35.ne rfl (n34.ne rfl (n32.ne rfl (n27.ne rfl (n26.ne rfl (n22.ne rfl (n21.ne rfl (n19.ne rfl (n14.ne rfl (n13.ne rfl e12)))))))))
  refine sv n35.ok rfl (wn _ rfl) rfl (o_mv e37) (fun an38 n38 => ?_)
  have e39 := n38.ne rfl (n35.ne rfl (n34.ne rfl (n32.ne rfl (n27.ne rfl (n26.ne rfl e25)))))
  refine sv n38.ok rfl (wn _ rfl) rfl (o_ldR e39 B31 Try.underlying32 rfl (by kernel_rfl)) (fun an40 n40 => ?_)
  refine sc n40.ok rfl (wn _ rfl) rfl (o_f3 Try.func69 rfl rfl rfl (n40.ne rfl n38.at_) n40.at_ ev_func) (search_any K y va vc (by omega) (fun j k x z q1 q2 q3 q4 => sort_at hK.sort q1 (map_at q2) (map_at q3) q4) w28 (hv.gr G30)) ?_
  rintro _ w42 ⟨i1, b1, rfl, hi1, hlo1, hhi1, hb1, g43⟩
  refine ⟨_, rfl, fun an41 n41 => ?_⟩
  have G44 := G30.trans g43
  have B45 := B31.gr g43
  refine sv n41.ok rfl (wn _ rfl) rfl (o_mv n41.at_) (fun an46 n46 => ?_)
  refine sv n46.ok rfl (wn _ rfl) rfl (o_ex n46.at_ rfl) (fun an47 n47 => ?_)
  refine sv n47.ok rfl (wn _ rfl) rfl (o_ex (n47.ne rfl n46.at_) rfl) (fun an48 n48 => ?_)
  refine sv n48.ok rfl (wn _ rfl) rfl (o_as (n48.ne rfl n47.at_)) (fun an49 n49 => ?_)
  refine sv n49.ok rfl (wn _ rfl) rfl (o_as (n49.ne rfl n48.at_)) (fun an50 n50 => ?_)
  refine wpList_nil ?_
  refine th_n (hK36 _ _ ?_)
  refine wp_seq_k (fun K51 hK51 => ?_)
  refine wp_region_lit ?_
  have e52 := n50.ne rfl (n49.ne rfl (n48.ne rfl (n47.ne rfl (n46.ne rfl (n41.ne rfl (n40.ne rfl e39))))))
  refine sv n50.ok rfl (wn _ rfl) rfl (o_mf (fs := []) (cs := [.pointer (some ⟨b3, 0, none⟩)]) (by simp) (by simp [e52])) (fun an53 n53 => ?_)
  refine sv n53.ok rfl (wn _ rfl) rfl (o_as n53.at_) (fun an54 n54 => ?_)
  refine wpList_nil ?_
  refine th_n (hK51 _ _ ?_)
  refine wp_seq_k (fun K55 hK55 => ?_)
  refine wp_seq_k (fun K56 hK56 => ?_)
  refine wp_region_lit ?_
  refine sv n54.ok rfl (wn _ rfl) rfl (o_mv (n54.ne rfl (n53.ne rfl n50.at_))) (fun an57 n57 => ?_)
  refine sv n57.ok rfl (wn _ rfl) rfl (o_mv n57.at_) (fun an58 n58 => ?_)
  cases c59 : b1
  · have e60 := (n58.at_).trans (congrArg Value.bool (c59))
    have e61 := n58.ne rfl (n57.ne rfl (n54.ne rfl (n53.ne rfl (n50.ne rfl (n49.ne rfl n48.at_)))))
    have e62 := (e61).trans (congrArg Value.bool (c59))
    have e63 := n58.ne rfl (n57.ne rfl (n54.ne rfl (n53.ne rfl n50.at_)))
    have e64 := (e63).trans (congrArg Value.bool (c59))
    have e65 := ((n58.ne rfl n57.at_)).trans (congrArg Value.bool (c59))
    have e66 := n58.ne rfl (n57.ne rfl (n54.ne rfl (n53.ne rfl (n50.ne rfl (n49.ne rfl (n48.ne rfl (n47.ne rfl (n46.ne rfl (n41.ne rfl (n40.ne rfl (n38.ne rfl e37)))))))))))
    refine sv n58.ok rfl (wgT rfl (yl 1 false rfl e60) rfl) rfl (o_mv e66) (fun an67 n67 => ?_)
    have e68 := n67.ne rfl (n58.ne rfl (n57.ne rfl n54.at_))
    refine sv n67.ok rfl (wgT rfl (yl 1 false rfl (n67.ne rfl e60)) rfl) rfl (o_mv e68) (fun an69 n69 => ?_)
    refine sc n69.ok rfl (wgT rfl (yl 1 false rfl (n69.ne rfl (n67.ne rfl e60))) rfl) rfl (o_f2 Try.func29 rfl rfl rfl (n69.ne rfl n67.at_) n69.at_) (containsV K va vc _ [.pointer (some ⟨b3, 0, none⟩)] (fun x => ovB x.d y.d) ⟨_, Try.func70, rfl, rfl⟩ (by omega) w42 (hv.gr G44) (fun x hx w1 g1 => put1_any x y b3 (hok x hx) hy w1 ((hm x hx).gr (G44.trans g1)) (B45.gr g1))) ?_
    rintro _ w71 ⟨rfl, g72⟩
    refine ⟨_, rfl, fun an70 n70 => ?_⟩
    have G73 := G44.trans g72
    have B74 := B45.gr g72
    have e75 := n70.ne rfl (n69.ne rfl (n67.ne rfl e60))
    refine sv n70.ok rfl (wn _ rfl) rfl (o_pkF e75 n70.at_) (fun an76 n76 => ?_)
    refine wpList_nil ?_
    refine th_n (hK56 _ _ ?_)
    cases c77 : (K.any fun x => ovB x.d y.d)
    · refine wp_cond_false ((n76.at_).trans (congrArg Value.bool (c77))) ?_
      refine wp_skip ?_
      refine th_n (hK55 _ _ ?_)
      refine wp_seq_k (fun K78 hK78 => ?_)
      refine wp_region_lit ?_
      have e79 := n76.ne rfl (n70.ne rfl (n69.ne rfl (n67.ne rfl e66)))
      refine sv n76.ok rfl (wn _ rfl) rfl (o_mv e79) (fun an80 n80 => ?_)
      have e81 := n80.ne rfl (n76.ne rfl (n70.ne rfl (n69.ne rfl (n67.ne rfl (n58.ne rfl (n57.ne rfl (n54.ne rfl (n53.ne rfl e52))))))))
      refine sv n80.ok rfl (wn _ rfl) rfl (o_ldR e81 B74 Try.underlying32 rfl (by kernel_rfl)) (fun an82 n82 => ?_)
      refine sc n82.ok rfl (wn _ rfl) rfl (o_f1 Try.func59 rfl rfl rfl n82.at_) (supBy_any y w71) ?_
      rintro _ w84 ⟨cS, rfl, -, hbS, g85⟩
      refine ⟨_, rfl, fun an83 n83 => ?_⟩
      have G86 := G73.trans g85
      have B87 := B74.gr g85
      have A89 := Gr.refl w84
      obtain ⟨basew, z90⟩ : ∃ n, n = w84.heap.size := ⟨_, rfl⟩
      have l91 : b3 < basew := by rw [z90]; exact B87.lt
      have l92 : w.heap.size ≤ basew := by rw [z90]; exact G86.size
      have z93 : basew ≤ w84.heap.size := Nat.le_of_eq z90
      refine sc n83.ok rfl (wn _ rfl) rfl (o_f2 Try.func42 rfl rfl rfl (n83.ne rfl (n82.ne rfl n80.at_)) n83.at_) (without_any K va vc _ [.pointer (some ⟨cS, 0, none⟩)] (fun x => ovB y.d x.d) ⟨_, Try.func90, rfl, rfl⟩ (by omega) hok w84 (hv.gr G86) (hm.gr G86) (fun x hx w1 g1 => supBy1_any x y cS (hok x hx) (chkOne_zero hy).2.2.1 w1 (hmy.gr (G86.trans g1)) (((hbS.gr A89)).gr g1))) ?_
      rintro _ w95 ⟨Rw, vw, rfl, hRw, hOw, hPw, g96⟩
      obtain ⟨raw, rcw, rfl, -⟩ := ow_form hOw
      rw [← z90] at hOw hPw
      refine ⟨_, rfl, fun an94 n94 => ?_⟩
      have G97 := G86.trans g96
      have B98 := B87.gr g96
      have A99 := A89.trans g96
      have z100 := Nat.le_trans z93 g96.size
      refine sv n94.ok rfl (wn _ rfl) rfl (o_as n94.at_) (fun an101 n101 => ?_)
      refine wpList_nil ?_
      refine th_n (hK78 _ _ ?_)
      refine wp_seq_k (fun K102 hK102 => ?_)
      refine wp_seq_k (fun K103 hK103 => ?_)
      refine wp_region_lit ?_
      refine sv n101.ok rfl (wn _ rfl) rfl (o_mv n101.at_) (fun an104 n104 => ?_)
      refine sv n104.ok rfl (wn _ rfl) rfl (o_len n104.at_ Try.underlying22) (fun an105 n105 => ?_)
      refine sv n105.ok rfl (wn _ rfl) rfl (o_eqI n105.at_ ev_const) (fun an106 n106 => ?_)
      refine wpList_nil ?_
      refine th_n (hK103 _ _ ?_)
      by_cases c107 : ((Rw.length : Nat) : Int) = 60
      · refine wp_cond_true ((n106.at_).trans (congrArg Value.bool (decide_eq_true c107))) ?_
        refine wp_seq_k (fun K108 hK108 => ?_)
        refine wp_region_lit ?_
        refine sv n106.ok rfl (wn _ rfl) rfl (o_as ev_const) (fun an109 n109 => ?_)
        refine sv n109.ok rfl (wn _ rfl) rfl (o_as ev_const) (fun an110 n110 => ?_)
        refine wpList_nil ?_
        refine th_n (hK108 _ _ ?_)
        refine wp_ret ?_
        refine th_r ?_
        have hKl : (svKeep (K.map VerI.d) y.d).length = 60 := by unfold svKeep; rw [← filt_map K (fun x => !ovB y.d x), ← hRw, List.length_map]; omega
        exact ret2 n110.ok rfl ((n110.ne rfl n109.at_)) (n110.at_) ⟨_, congrArg (fun n => Ending.returned (.tuple #[_, .int .i64 n])) (Eq.symm (by unfold putE; rw [if_pos ((okS_iff _).2 hK), if_pos (show chkOne y.d = 0 from hy), if_neg (show ¬ svHeld (K.map VerI.d) y.d = true from by rw [held_map, ← there_eq hlo1 hhi1 hK.sort hb1, c59, c77]; simp), if_pos hKl])), by unfold putL; rw [if_pos ((okS_iff _).2 hK), if_pos (show chkOne y.d = 0 from hy), if_neg (show ¬ svHeld (K.map VerI.d) y.d = true from by rw [held_map, ← there_eq hlo1 hhi1 hK.sort hb1, c59, c77]; simp), if_pos hKl]; exact ResV.nil _ _, G97⟩
      · refine wp_cond_false ((n106.at_).trans (congrArg Value.bool (decide_eq_false c107))) ?_
        refine wp_skip ?_
        refine th_n (hK102 _ _ ?_)
        refine wp_seq_k (fun K111 hK111 => ?_)
        refine wp_region_lit ?_
        have e112 := n106.ne rfl (n105.ne rfl (n104.ne rfl n101.at_))
        refine sv n106.ok rfl (wn _ rfl) rfl (o_mv e112) (fun an113 n113 => ?_)
        have e114 := n113.ne rfl (n106.ne rfl (n105.ne rfl (n104.ne rfl (n101.ne rfl (n94.ne rfl (n83.ne rfl (n82.ne rfl e81)))))))
        refine sv n113.ok rfl (wn _ rfl) rfl (o_ldR e114 B98 Try.underlying32 rfl (by kernel_rfl)) (fun an115 n115 => ?_)
        refine sc n115.ok rfl (wn _ rfl) rfl (o_f3 Try.func69 rfl rfl rfl (n115.ne rfl n113.at_) n115.at_ ev_func) (search_any Rw y raw rcw (by have := congrArg List.length hRw; have h2 := List.length_filter_le (fun x => !ovB y.d x.d) K; simp only [List.length_map] at this; omega) (fun j k x z q1 q2 q3 q4 => sort_at (by rw [hRw, filt_map K (fun x => !ovB y.d x)]; exact (svKeep_ok hK _).sort) q1 (map_at q2) (map_at q3) q4) w95 (RdA.own encVr_ok hOw rfl)) ?_
        rintro _ w117 ⟨i2, b2, rfl, hi2, hlo2, hhi2, hb2, g118⟩
        refine ⟨_, rfl, fun an116 n116 => ?_⟩
        have G119 := G97.trans g118
        have B120 := B98.gr g118
        have A121 := A99.trans g118
        have z122 := Nat.le_trans z100 g118.size
        have O123 := ow_gr hOw g118
        have F124 := hPw.tk (tks_gr g118)
        refine sv n116.ok rfl (wn _ rfl) rfl (o_mv n116.at_) (fun an125 n125 => ?_)
        refine sv n125.ok rfl (wn _ rfl) rfl (o_ex n125.at_ rfl) (fun an126 n126 => ?_)
        refine sv n126.ok rfl (wn _ rfl) rfl (o_ex (n126.ne rfl n125.at_) rfl) (fun an127 n127 => ?_)
        refine sv n127.ok rfl (wn _ rfl) rfl (o_as (n127.ne rfl n126.at_)) (fun an128 n128 => ?_)
        refine sv n128.ok rfl (wn _ rfl) rfl (o_as (n128.ne rfl n127.at_)) (fun an129 n129 => ?_)
        refine wpList_nil ?_
        refine th_n (hK111 _ _ ?_)
        refine wp_seq_k (fun K130 hK130 => ?_)
        refine wp_region_lit ?_
        have e131 := n129.ne rfl (n128.ne rfl (n127.ne rfl (n126.ne rfl (n125.ne rfl (n116.ne rfl (n115.ne rfl (n113.ne rfl e112)))))))
        refine sv n129.ok rfl (wn _ rfl) rfl (o_mv e131) (fun an132 n132 => ?_)
        refine sv n132.ok rfl (wn _ rfl) rfl (o_mv (n132.ne rfl (n129.ne rfl n128.at_))) (fun an133 n133 => ?_)
        have e134 := n133.ne rfl (n132.ne rfl (n129.ne rfl (n128.ne rfl (n127.ne rfl (n126.ne rfl (n125.ne rfl (n116.ne rfl (n115.ne rfl e114))))))))
        refine sv n133.ok rfl (wn _ rfl) rfl (o_ldR e134 B120 Try.underlying32 rfl (by kernel_rfl)) (fun an135 n135 => ?_)
        refine sc n135.ok rfl (wn _ rfl) rfl (o_f1 Try.func73 rfl rfl rfl n135.at_) (clone_any y hy w117 (hmy.gr G119)) ?_
        rintro _ w137 ⟨y2, hy2, rfl, hk2, g138⟩
        refine ⟨_, rfl, fun an136 n136 => ?_⟩
        have G139 := G119.trans g138
        have B140 := B120.gr g138
        have A141 := A121.trans g138
        have z142 := Nat.le_trans z122 g138.size
        have O143 := ow_gr O123 g138
        have F144 := F124.tk (tks_gr g138)
        obtain ⟨i145, i145a, i145b, i145c⟩ := info3_of (show (Try.prog.info? 32).map (fun i => (i.zero, i.size)) = some (some (.agg #[.string (bs []), .int .i64 0, .int .i64 0, .int .i64 0, .int .i64 0, .int .i64 0, .slice none 0 0, .slice none 0 0]), 8) by kernel_rfl)
        refine sals (cs := #[.string (bs y2.d.id), .int .i64 (y2.d.s), .int .i64 (y2.d.c), .int .i64 (y2.d.t), .int .i64 (y2.d.n), .int .i64 (y2.d.b), .slice y2.va y2.d.V.length y2.vc, .slice y2.ma y2.d.M.length y2.mc]) n136.ok rfl (wn _ rfl) rfl (o_bs (vs := [(0, .agg #[.string (bs y2.d.id), .int .i64 (y2.d.s), .int .i64 (y2.d.c), .int .i64 (y2.d.t), .int .i64 (y2.d.n), .int .i64 (y2.d.b), .slice y2.va y2.d.V.length y2.vc, .slice y2.ma y2.d.M.length y2.mc])]) (by simp [n136.at_, ev_const]) Try.underlying22 i145a i145b (by rw [i145c]; rfl) (by rw [i145c]; rfl) (by rw [i145c]; kernel_rfl)) (fun an146 w148 b147 W149 n146 => ?_)
        have l150 : b3 < b147 := by rw [W149.eq]; exact B140.lt
        have l151 : w.heap.size ≤ b147 := by rw [W149.eq]; exact G139.size
        have l152 : w84.heap.size ≤ b147 := by rw [W149.eq]; exact A141.size
        have l153 : ∀ k, Value.ownBlock (.slice raw Rw.length rcw) = some k → k < b147 := fun k e => by rw [W149.eq]; exact ow_in O143 k e
        have G154 := G139.trans W149.gr
        have B155 := B140.gr W149.gr
        have A156 := A141.trans W149.gr
        have z157 := Nat.le_trans z142 W149.gr.size
        have O158 := ow_gr O143 W149.gr
        have F159 := F144.tk (tks_gr W149.gr)
        have F160 := (hk2.base z122).tk (tks_gr W149.gr)
        have e161 := n146.ne rfl (n136.ne rfl (n135.ne rfl (n133.ne rfl n132.at_)))
        have e162 := n146.ne rfl (n136.ne rfl (n135.ne rfl n133.at_))
        refine sc n146.ok rfl (wn _ rfl) rfl (o_f3 Try.func72 rfl rfl rfl e161 e162 n146.at_) (insert_any Rw y2 _ b147 basew i2 (by have := congrArg List.length hRw; have h2 := List.length_filter_le (fun x => !ovB y.d x.d) K; simp only [List.length_map] at this; omega) hi2 w w148 G154 l92 z157 O158 W149.bk l153) ?_
        rintro _ w164 ⟨u3, rfl, hO3, g165⟩
        refine ⟨_, rfl, fun an163 n163 => ?_⟩
        have G166 := Gr.grown G154 g165 (fun k e => Nat.le_trans l92 (ow_lt O158 k e))
        have B167 := B155.grown g165 (ow_lt O158) l91
        have B168 := W149.bk.grown_ne g165 l153
        have z170 := Nat.le_trans z157 g165.size
        have F171 := F159.tk (tks_grown O158 g165 (by decide))
        have F172 := F160.tk (tks_grown O158 g165 (by decide))
        refine sv n163.ok rfl (wn _ rfl) rfl (o_as n163.at_) (fun an173 n173 => ?_)
        refine sv n173.ok rfl (wn _ rfl) rfl (o_as ev_const) (fun an174 n174 => ?_)
        refine wpList_nil ?_
        refine th_n (hK130 _ _ ?_)
        refine wp_ret ?_
        have hKl : ¬ (svKeep (K.map VerI.d) y.d).length = 60 := by unfold svKeep; rw [← filt_map K (fun x => !ovB y.d x), ← hRw, List.length_map]; omega
        have hfin : (Rw.take i2 ++ y2 :: Rw.drop i2).map VerI.d = svIns (svKeep (K.map VerI.d) y.d) y.d := by
          have e : Rw.map VerI.d = svKeep (K.map VerI.d) y.d := by unfold svKeep; rw [← filt_map K (fun x => !ovB y.d x), hRw]
          rw [List.map_append, List.map_cons, List.map_take, List.map_drop, hy2, e]
          rw [← e]
          refine cut_at (by rw [List.length_map]; exact hi2) (fun k x hk hx => ?_) (fun k x hk hx => ?_)
          · obtain ⟨z, hz, rfl⟩ := map_of hx
            exact hlo2 k z hk hz
          · obtain ⟨z, hz, rfl⟩ := map_of hx
            exact hhi2 k z hk hz
        have hlf : (Rw.take i2 ++ y2 :: Rw.drop i2).length = Rw.length + 1 := by rw [List.length_append, List.length_cons, List.length_take, List.length_drop]; omega
        exact ret2 n174.ok rfl ((n174.ne rfl n173.at_)) (n174.at_) ⟨_, congrArg (fun n => Ending.returned (.tuple #[_, .int .i64 n])) (Eq.symm (by unfold putE; rw [if_pos ((okS_iff _).2 hK), if_pos (show chkOne y.d = 0 from hy), if_neg (show ¬ svHeld (K.map VerI.d) y.d = true from by rw [held_map, ← there_eq hlo1 hhi1 hK.sort hb1, c59, c77]; simp), if_neg hKl])), by unfold putL; rw [if_pos ((okS_iff _).2 hK), if_pos (show chkOne y.d = 0 from hy), if_neg (show ¬ svHeld (K.map VerI.d) y.d = true from by rw [held_map, ← there_eq hlo1 hhi1 hK.sort hb1, c59, c77]; simp), if_neg hKl]; exact ⟨_, hfin, by rw [hlf]; exact ow_lessb hO3 l92, (OwnsVr.ins F171 F172 i2).base l92⟩, G166⟩
    · refine wp_cond_true ((n76.at_).trans (congrArg Value.bool (c77))) ?_
      refine wp_seq_k (fun K175 hK175 => ?_)
      refine wp_region_lit ?_
      have e176 := n76.ne rfl (n70.ne rfl (n69.ne rfl (n67.ne rfl e66)))
      refine sv n76.ok rfl (wn _ rfl) rfl (o_mv e176) (fun an177 n177 => ?_)
      obtain ⟨basen, z178⟩ : ∃ n, n = w71.heap.size := ⟨_, rfl⟩
      have l179 : b3 < basen := by rw [z178]; exact B74.lt
      have l180 : w.heap.size ≤ basen := by rw [z178]; exact G73.size
      have z181 : basen ≤ w71.heap.size := Nat.le_of_eq z178
      refine sc n177.ok rfl (wn _ rfl) rfl (o_f2 Try.func42 rfl rfl rfl n177.at_ ev_func) (without_any K va vc _ [] (fun _ => false) ⟨_, Try.func71, rfl, rfl⟩ (by omega) hok w71 (hv.gr G73) (hm.gr G73) (fun x hx w1 g1 => never_any x w1)) ?_
      rintro _ w183 ⟨Rn, vn, rfl, hRn, hOn, hPn, g184⟩
      obtain ⟨ran, rcn, rfl, -⟩ := ow_form hOn
      rw [← z178] at hOn hPn
      refine ⟨_, rfl, fun an182 n182 => ?_⟩
      have G185 := G73.trans g184
      have B186 := B74.gr g184
      have z187 := Nat.le_trans z181 g184.size
      refine sv n182.ok rfl (wn _ rfl) rfl (o_as n182.at_) (fun an188 n188 => ?_)
      refine sv n188.ok rfl (wn _ rfl) rfl (o_as ev_const) (fun an189 n189 => ?_)
      refine wpList_nil ?_
      refine th_n (hK175 _ _ ?_)
      refine wp_ret ?_
      refine th_r ?_
      exact ret2 n189.ok rfl ((n189.ne rfl n188.at_)) (n189.at_) ⟨_, congrArg (fun n => Ending.returned (.tuple #[_, .int .i64 n])) (Eq.symm (by unfold putE; rw [if_pos ((okS_iff _).2 hK), if_pos (show chkOne y.d = 0 from hy), if_pos (show svHeld (K.map VerI.d) y.d = true from by rw [held_map, c77, Bool.or_true])])), by unfold putL; rw [if_pos ((okS_iff _).2 hK), if_pos (show chkOne y.d = 0 from hy), if_pos (show svHeld (K.map VerI.d) y.d = true from by rw [held_map, c77, Bool.or_true])]; exact ⟨Rn, by rw [hRn, all_keep], ow_lessb hOn l180, hPn.base l180⟩, G185⟩
  · have e190 := (n58.at_).trans (congrArg Value.bool (c59))
    have e191 := n58.ne rfl (n57.ne rfl (n54.ne rfl (n53.ne rfl (n50.ne rfl (n49.ne rfl n48.at_)))))
    have e192 := (e191).trans (congrArg Value.bool (c59))
    have e193 := n58.ne rfl (n57.ne rfl (n54.ne rfl (n53.ne rfl n50.at_)))
    have e194 := (e193).trans (congrArg Value.bool (c59))
    have e195 := ((n58.ne rfl n57.at_)).trans (congrArg Value.bool (c59))
    refine sn n58.ok rfl (wgF rfl (yl 1 true rfl e190) rfl) rfl (fun an196 n196 => ?_)
    refine sn n196.ok rfl (wgF rfl (yl 1 true rfl (n196.ne rfl e190)) rfl) rfl (fun an197 n197 => ?_)
    refine sn n197.ok rfl (wgF rfl (yl 1 true rfl (n197.ne rfl (n196.ne rfl e190))) rfl) rfl (fun an198 n198 => ?_)
    have e199 := n198.ne rfl (n197.ne rfl (n196.ne rfl e190))
    refine sv n198.ok rfl (wn _ rfl) rfl (o_pkT e199 ev_const) (fun an200 n200 => ?_)
    refine wpList_nil ?_
    refine th_n (hK56 _ _ ?_)
    refine wp_cond_true (n200.at_) ?_
    refine wp_seq_k (fun K201 hK201 => ?_)
    refine wp_region_lit ?_
    have e202 := n200.ne rfl (n198.ne rfl (n197.ne rfl (n196.ne rfl (n58.ne rfl (n57.ne rfl (n54.ne rfl (n53.ne rfl (n50.ne rfl (n49.ne rfl (n48.ne rfl (n47.ne rfl (n46.ne rfl (n41.ne rfl (n40.ne rfl (n38.ne rfl e37)))))))))))))))
    refine sv n200.ok rfl (wn _ rfl) rfl (o_mv e202) (fun an203 n203 => ?_)
    obtain ⟨basen, z204⟩ : ∃ n, n = w42.heap.size := ⟨_, rfl⟩
    have l205 : b3 < basen := by rw [z204]; exact B45.lt
    have l206 : w.heap.size ≤ basen := by rw [z204]; exact G44.size
    have z207 : basen ≤ w42.heap.size := Nat.le_of_eq z204
    refine sc n203.ok rfl (wn _ rfl) rfl (o_f2 Try.func42 rfl rfl rfl n203.at_ ev_func) (without_any K va vc _ [] (fun _ => false) ⟨_, Try.func71, rfl, rfl⟩ (by omega) hok w42 (hv.gr G44) (hm.gr G44) (fun x hx w1 g1 => never_any x w1)) ?_
    rintro _ w209 ⟨Rn, vn, rfl, hRn, hOn, hPn, g210⟩
    obtain ⟨ran, rcn, rfl, -⟩ := ow_form hOn
    rw [← z204] at hOn hPn
    refine ⟨_, rfl, fun an208 n208 => ?_⟩
    have G211 := G44.trans g210
    have B212 := B45.gr g210
    have z213 := Nat.le_trans z207 g210.size
    refine sv n208.ok rfl (wn _ rfl) rfl (o_as n208.at_) (fun an214 n214 => ?_)
    refine sv n214.ok rfl (wn _ rfl) rfl (o_as ev_const) (fun an215 n215 => ?_)
    refine wpList_nil ?_
    refine th_n (hK201 _ _ ?_)
    refine wp_ret ?_
    refine th_r ?_
    exact ret2 n215.ok rfl ((n215.ne rfl n214.at_)) (n215.at_) ⟨_, congrArg (fun n => Ending.returned (.tuple #[_, .int .i64 n])) (Eq.symm (by unfold putE; rw [if_pos ((okS_iff _).2 hK), if_pos (show chkOne y.d = 0 from hy), if_pos (show svHeld (K.map VerI.d) y.d = true from by rw [held_map, ← there_eq hlo1 hhi1 hK.sort hb1, c59]; rfl)])), by unfold putL; rw [if_pos ((okS_iff _).2 hK), if_pos (show chkOne y.d = 0 from hy), if_pos (show svHeld (K.map VerI.d) y.d = true from by rw [held_map, ← there_eq hlo1 hhi1 hK.sort hb1, c59]; rfl)]; exact ⟨Rn, by rw [hRn, all_keep], ow_lessb hOn l206, hPn.base l206⟩, G211⟩
end Go.Proofs.Ytoencnbpjjkjnaa

/- Equal words; small sets that are written out. -/
set_option linter.unusedVariables false
set_option linter.unusedSimpArgs false
namespace Rm
open Go Go.RowKit Gx
end Rm
namespace Go.Proofs.Ytoencnbpjjkjnaa
open Go.RowKit Rm Gx
section
variable {ev : Operand → Value} {d : Option Tmp} {ty : TypeId} {p : String} {af : Array Edge} {g : Option (Nat × Bool)} {w : World}
end
theorem r1_bk {w : World} {b : Nat} {V : List Int} {cs : Array Value} {t : TypeId} (h : Bk w b cs t) (hc : cs = (V.map (Value.int .i64)).toArray) : R1 w (.slice (some ⟨b, 0, none⟩) V.length V.length) V :=
  ⟨_, _, rfl, Nat.le_refl _, fun _ => ⟨b, 0, rfl, h.lt, fun i x hx => by
    rw [Nat.zero_add]
    exact h.cell i (by subst hc; simp [hx])⟩⟩
theorem knR_vec1 {w : World} {b : Nat} {x : Int} {t : TypeId} (h : Bk w b #[.int .i64 x] t) : KnR w (.agg #[.slice (some ⟨b, 0, none⟩) 1 1, .slice none 0 0]) [x] [] :=
  ⟨_, _, rfl, r1_bk (V := [x]) h rfl, Rd2.nil w, ⟨rfl, by simp [flat], .inl ⟨rfl, rfl⟩⟩⟩
end Go.Proofs.Ytoencnbpjjkjnaa

/- reedkeep.Within, set, knowBegun. -/
set_option linter.unusedVariables false
set_option linter.unusedSimpArgs false
namespace Rm
open Go Go.RowKit Gx
/-- what Within makes of an integer -/
def wi (k : Int) (n : Nat) : Nat := (k % 18446744073709551616).toNat % n
theorem wi_lt (k : Int) (n : Nat) (h : 0 < n) : wi k n < n := Nat.mod_lt _ h
theorem kwrap64 (k : Int) : IntKind.u64.wrap k = (((k % 18446744073709551616).toNat : Nat) : Int) := by
  rw [IntKind.wrap_u64]; omega
/-- slices of integers, in a slice -/
def RdLL (w : World) (v : Value) (L : List (List Int)) : Prop :=
  ∃ a c, v = .slice a L.length c ∧ L.length ≤ c ∧ (L ≠ [] → ∃ b off, a = some ⟨b, off, none⟩ ∧ b < w.heap.size ∧ ∀ i x, L[i]? = some x → ∃ ua uc, w.cell? ⟨b, off + i * 1, none⟩ = some (.slice ua x.length uc) ∧ RdI1 w ua x)
theorem RdI1.gr {w w' : World} {a : Option Addr} {V : List Int} (h : RdI1 w a V) (g : Gr w w') : RdI1 w' a V := fun hn => by
  obtain ⟨b, off, h1, h2, h3⟩ := h hn
  exact ⟨b, off, h1, Nat.lt_of_lt_of_le h2 g.le, fun i x hx => (g.cells.1 b _ h2).trans (h3 i x hx)⟩
theorem RdLL.gr {w w' : World} {v : Value} {L : List (List Int)} (h : RdLL w v L) (g : Gr w w') : RdLL w' v L := by
  obtain ⟨a, c, e, hc, h⟩ := h
  refine ⟨a, c, e, hc, fun hn => ?_⟩
  obtain ⟨b, off, h1, h2, h3⟩ := h hn
  refine ⟨b, off, h1, Nat.lt_of_lt_of_le h2 g.le, fun i x hx => ?_⟩
  obtain ⟨ua, uc, q1, q2⟩ := h3 i x hx
  exact ⟨ua, uc, (g.cells.1 b _ h2).trans q1, q2.gr g⟩
/-- the dot that two integers name -/
def dotOf (c : List Int) : Option (Nat × Nat) := match c with
  | x :: y :: _ => some (wi x 5, 1 + wi y 12)
  | _ => none
def setN (L : List (List Int)) : List (Nat × Nat) := (L.take 40).filterMap dotOf
def setD (L : List (List Int)) : DS := fun s c => (setN L).contains (s, c)
theorem dotOf_in {c : List Int} {d : Nat × Nat} (h : dotOf c = some d) : d.1 < 5 ∧ 1 ≤ d.2 ∧ d.2 ≤ 12 := by
  match c, h with
  | x :: y :: _, h =>
    simp [dotOf] at h
    subst h
    have h1 := wi_lt x 5 (by omega)
    have h2 := wi_lt y 12 (by omega)
    simp only
    omega
theorem setN_in {L : List (List Int)} {d : Nat × Nat} (h : d ∈ setN L) : d.1 < 5 ∧ 1 ≤ d.2 ∧ d.2 ≤ 12 := by
  obtain ⟨c, _, hc⟩ := List.mem_filterMap.1 h
  exact dotOf_in hc
theorem setD_small (L : List (List Int)) : ∀ s c, setD L s c = true → s < 5 ∧ 1 ≤ c ∧ c ≤ 12 := fun s c h => by
  have : (s, c) ∈ setN L := by simpa [setD] using h
  exact setN_in this
end Rm
namespace Go.Proofs.Ytoencnbpjjkjnaa
open Go.RowKit Rm Gx
set_option maxHeartbeats 8000000 in
set_option maxRecDepth 100000 in
theorem kwithin_any (k : Int) (n : Nat) (hn : 0 < n) (hn2 : n < 1000000) (w : World) :
    Calls Try.prog 24 #[.int .i64 (k), .int .i64 (n : Int)] w fun e w' => e = .returned (.int .i64 ((wi k n : Nat) : Int)) ∧ Gr w w' := by
  refine enter (N := 11) Try.func24 rfl rfl rfl (fun a0 ok0 h0 => ?_)
  have e0_0 : a0.eval (.tmp 0) = .int .i64 (k) := h0 0 _ rfl
  have e0_1 : a0.eval (.tmp 1) = .int .i64 (n : Int) := h0 1 _ rfl
  clear h0
  have G0 := Gr.refl w
  refine wp_seq_k (fun K1 hK1 => ?_)
  refine wp_region_lit ?_
  refine sv ok0 rfl (wn _ rfl) rfl (o_as ev_const) (fun an2 n2 => ?_)
  refine wpList_nil ?_
  refine th_n (hK1 _ _ ?_)
  refine wp_seq_k (fun K3 hK3 => ?_)
  refine wp_region_lit ?_
  refine sv n2.ok rfl (wn _ rfl) rfl (o_mv (n2.ne rfl e0_0)) (fun an4 n4 => ?_)
  refine sv n4.ok rfl (wn _ rfl) rfl (o_cv n4.at_ Try.underlying3 Try.underlying84 (kwrap64 k)) (fun an5 n5 => ?_)
  have e6 := n5.ne rfl (n4.ne rfl (n2.ne rfl e0_1))
  refine sv n5.ok rfl (wn _ rfl) rfl (o_mv e6) (fun an7 n7 => ?_)
  refine sv n7.ok rfl (wn _ rfl) rfl (o_cv n7.at_ Try.underlying3 Try.underlying84 (IntWalk.u64_in _ (by omega))) (fun an8 n8 => ?_)
  have hlt := wi_lt k n hn
  refine sv n8.ok rfl (wn _ rfl) rfl (o_remU (i := (k % 18446744073709551616).toNat) (j := n) (r := wi k n) (n8.ne rfl (n7.ne rfl n5.at_)) n8.at_ hn rfl) (fun an9 n9 => ?_)
  refine sv n9.ok rfl (wn _ rfl) rfl (o_cv n9.at_ Try.underlying84 Try.underlying3 (IntWalk.i64_in _ (by omega))) (fun an10 n10 => ?_)
  refine sv n10.ok rfl (wn _ rfl) rfl (o_as n10.at_) (fun an11 n11 => ?_)
  refine wpList_nil ?_
  refine th_n (hK3 _ _ ?_)
  refine wp_ret ?_
  exact ret1 n11.ok rfl (n11.at_) ⟨rfl, G0⟩
end Go.Proofs.Ytoencnbpjjkjnaa

/- SameVersion, SameShelf, shelfBegun; Put at every input. -/
set_option linter.unusedVariables false
set_option linter.unusedSimpArgs false
namespace Rm
open Go Go.RowKit Gx
def sameVB (a b : VerD) : Bool := decide (a.id = b.id) && decide (a.s = b.s ∧ a.c = b.c) && decide (a.t = b.t ∧ a.n = b.n) && decide (a.b = b.b) && decide (a.V = b.V ∧ a.M = b.M)
theorem sameVB_iff (a b : VerD) : sameVB a b = true ↔ a = b := by
  unfold sameVB
  simp only [Bool.and_eq_true, decide_eq_true_eq]
  constructor
  · rintro ⟨⟨⟨⟨h1, h2, h3⟩, h4, h5⟩, h6⟩, h7, h8⟩
    cases a; cases b
    simp_all
  · rintro rfl
    simp
theorem put_held {L : List VerD} {y : VerD} (h1 : chkShf L = 0) (h2 : chkOne y = 0) (h : svHeld L y = true) : putE L y = 0 ∧ putL L y = L := by
  unfold putE putL
  rw [if_pos h1, if_pos h1, if_pos h2, if_pos h2, if_pos h, if_pos h]
  exact ⟨rfl, rfl⟩
theorem held_of {L : List VerD} {y : VerD} (h : y ∈ L) : svHeld L y = true := by
  unfold svHeld
  rw [Bool.or_eq_true]
  refine .inl (List.any_eq_true.2 ⟨y, h, ?_⟩)
  rw [decide_eq_true_eq, cmpV_eq]
  exact ⟨rfl, rfl, rfl⟩
instance : DecidableEq VerD := fun a b => decidable_of_iff (sameVB a b = true) (sameVB_iff a b)
def begA : VerD := ⟨[97], 0, 1, 0, 0, 0, [], []⟩
def begB : VerD := ⟨[97], 1, 1, 0, 0, 0, [1], []⟩
theorem begA_put : putE [] begA = 0 ∧ putL [] begA = [begA] := by decide
theorem begB_put : putE [begA] begB = 0 ∧ putL [begA] begB = [begB] := by decide
end Rm
namespace Go.Proofs.Ytoencnbpjjkjnaa
open Go.RowKit Rm Gx
theorem sput_any (K : List VerI) (y : VerI) (va : Option Addr) (vc : Nat) (w : World) (hv : RdA encVr 8 w va K) (hm : MeansV w K) (hmy : MeanV w y) :
    Calls Try.prog 34 #[.slice va K.length vc, .agg (encVr y).toArray] w fun e w' => ∃ u, e = .returned (.tuple #[u, .int .i64 (putE (K.map VerI.d) y.d)]) ∧ ResV w.heap.size w' u (putL (K.map VerI.d) y.d) ∧ Gr w w' := by
  by_cases hK : chkShf (K.map VerI.d) = 0
  · by_cases hy : chkOne y.d = 0
    · exact sput_ok K y va vc ((okS_iff _).1 hK) hy w hv hm hmy
    · exact sput_badv K y va vc ((okS_iff _).1 hK) hy w hv hm hmy
  · exact sput_bad K y va vc hK w hv hm hmy
/-- the same, with what is read of the answer -/
theorem sput_r (K : List VerI) (y : VerI) (va : Option Addr) (vc : Nat) (w : World) (hv : RdA encVr 8 w va K) (hm : MeansV w K) (hmy : MeanV w y) (L : List VerD) (hK : K.map VerI.d = L) :
    Calls Try.prog 34 #[.slice va K.length vc, .agg (encVr y).toArray] w fun e w' => ∃ (R : List VerI) (a : Option Addr) (c : Nat), e = .returned (.tuple #[.slice a R.length c, .int .i64 (putE L y.d)]) ∧ R.map VerI.d = putL L y.d ∧ RdA encVr 8 w' a R ∧ MeansV w' R ∧ Gr w w' := by
  subst hK
  refine (sput_any K y va vc w hv hm hmy).mono ?_
  rintro e w' ⟨u, rfl, ⟨R, h1, h2, h3⟩, g⟩
  obtain ⟨a, c, rfl, -⟩ := ow_form h2
  exact ⟨R, a, c, rfl, h1, RdA.own encVr_ok h2 rfl, h3.mean, g⟩
set_option maxHeartbeats 8000000 in
set_option maxRecDepth 100000 in
theorem begun_shelf  (w : World) :
    Calls Try.prog 22 #[] w fun e w' => e = .returned (.bool true) ∧ Gr w w' := by
  refine enter (N := 39) Try.func22 rfl rfl rfl (fun a0 ok0 h0 => ?_)
  clear h0
  have G0 := Gr.refl w
  refine wp_seq_k (fun K1 hK1 => ?_)
  refine wp_region_lit ?_
  refine sv ok0 rfl (wn _ rfl) rfl (o_as ev_const) (fun an2 n2 => ?_)
  refine wpList_nil ?_
  refine th_n (hK1 _ _ ?_)
  refine wp_seq_k (fun K3 hK3 => ?_)
  refine wp_region_lit ?_
  refine sv n2.ok rfl (wn _ rfl) rfl (o_bd (cells := #[.int .i64 0, .int .i64 1]) (vs := [(1, .int .i64 1)]) (by simp [ev_const]) (by kernel_rfl)) (fun an4 n4 => ?_)
  refine sv n4.ok rfl (wn _ rfl) rfl (o_bd (cells := #[.string (bs [97]), .int .i64 0, .int .i64 1, .int .i64 0, .int .i64 0, .int .i64 0, .slice none 0 0, .slice none 0 0]) (vs := [(0, .string (bs [97])), (1, .agg #[.int .i64 0, .int .i64 1])]) (by simp [n4.at_, ev_const, bs]) (by kernel_rfl)) (fun an5 n5 => ?_)
  refine sc n5.ok rfl (wn _ rfl) rfl (o_f2 Try.func34 rfl rfl rfl ev_const n5.at_) (by have h := sput_r [] ⟨begA, none, 0, none, 0⟩ none 0 w (fun h => absurd rfl h) (fun x hx => by cases hx) (knR_nil _) [] rfl; rw [begA_put.1, begA_put.2] at h; exact h) ?_
  rintro _ w7 ⟨R1, ra1, rc1, rfl, hR1, hr1, hm1, g8⟩
  refine ⟨_, rfl, fun an6 n6 => ?_⟩
  have G9 := G0.trans g8
  have A11 := Gr.refl w7
  refine sv n6.ok rfl (wn _ rfl) rfl (o_mv n6.at_) (fun an12 n12 => ?_)
  refine sv n12.ok rfl (wn _ rfl) rfl (o_ex n12.at_ rfl) (fun an13 n13 => ?_)
  refine sv n13.ok rfl (wn _ rfl) rfl (o_ex (n13.ne rfl n12.at_) rfl) (fun an14 n14 => ?_)
  refine sv n14.ok rfl (wn _ rfl) rfl (o_as (n14.ne rfl n13.at_)) (fun an15 n15 => ?_)
  refine sv n15.ok rfl (wn _ rfl) rfl (o_as (n15.ne rfl n14.at_)) (fun an16 n16 => ?_)
  refine wpList_nil ?_
  refine th_n (hK3 _ _ ?_)
  refine wp_seq_k (fun K17 hK17 => ?_)
  refine wp_region_lit ?_
  refine sv n16.ok rfl (wn _ rfl) rfl (o_mv (n16.ne rfl n15.at_)) (fun an18 n18 => ?_)
  refine sv n18.ok rfl (wn _ rfl) rfl (o_bd (cells := #[.int .i64 1, .int .i64 1]) (vs := [(0, .int .i64 1), (1, .int .i64 1)]) (by simp [ev_const]) (by kernel_rfl)) (fun an19 n19 => ?_)
  obtain ⟨i20, i20a, i20b, i20c⟩ := info3_of (show (Try.prog.info? 3).map (fun i => (i.zero, i.size)) = some (some (.int .i64 0), 1) by kernel_rfl)
  refine sals (cs := #[.int .i64 1]) n19.ok rfl (wn _ rfl) rfl (o_bs (vs := [(0, .int .i64 1)]) (by simp [ev_const]) Try.underlying27 i20a i20b (by rw [i20c]; rfl) (by rw [i20c]; rfl) (by rw [i20c]; kernel_rfl)) (fun an21 w23 b22 W24 n21 => ?_)
  have l25 : w.heap.size ≤ b22 := by rw [W24.eq]; exact G9.size
  have l26 : w7.heap.size ≤ b22 := by rw [W24.eq]; exact A11.size
  have G27 := G9.trans W24.gr
  have A28 := A11.trans W24.gr
  refine sv n21.ok rfl (wn _ rfl) rfl (o_bd (cells := #[.slice (some ⟨b22, 0, none⟩) 1 1, .slice none 0 0]) (vs := [(0, .slice (some ⟨b22, 0, none⟩) 1 1)]) (by simp [n21.at_, ev_const]) (by kernel_rfl)) (fun an29 n29 => ?_)
  refine sv n29.ok rfl (wn _ rfl) rfl (o_bd (cells := #[.string (bs [97]), .int .i64 1, .int .i64 1, .int .i64 0, .int .i64 0, .int .i64 0, .slice (some ⟨b22, 0, none⟩) 1 1, .slice none 0 0]) (vs := [(0, .string (bs [97])), (1, .agg #[.int .i64 1, .int .i64 1]), (4, .agg #[.slice (some ⟨b22, 0, none⟩) 1 1, .slice none 0 0])]) (by simp [(n29.ne rfl (n21.ne rfl n19.at_)), n29.at_, ev_const, bs]) (by kernel_rfl)) (fun an30 n30 => ?_)
  have e31 := n30.ne rfl (n29.ne rfl (n21.ne rfl (n19.ne rfl n18.at_)))
  refine sc n30.ok rfl (wn _ rfl) rfl (o_f2 Try.func34 rfl rfl rfl e31 n30.at_) (by have h := sput_r R1 ⟨begB, some ⟨b22, 0, none⟩, 1, none, 0⟩ ra1 rc1 w23 (hr1.gr A28) (hm1.gr A28) (knR_vec1 W24.bk) [begA] hR1; rw [begB_put.1, begB_put.2] at h; exact h) ?_
  rintro _ w33 ⟨R2, ra2, rc2, rfl, hR2, hr2, hm2, g34⟩
  have hl2 : R2.length = 1 := by simpa using congrArg List.length hR2
  obtain ⟨z, hz0, hz⟩ : ∃ z : VerI, R2[0]? = some z ∧ z.d = begB := map_of (by rw [hR2]; rfl)
  rw [hl2]
  refine ⟨_, rfl, fun an32 n32 => ?_⟩
  have G35 := G27.trans g34
  have B36 := W24.bk.gr g34
  have A37 := A28.trans g34
  have A39 := Gr.refl w33
  refine sv n32.ok rfl (wn _ rfl) rfl (o_mv n32.at_) (fun an40 n40 => ?_)
  refine sv n40.ok rfl (wn _ rfl) rfl (o_ex n40.at_ rfl) (fun an41 n41 => ?_)
  refine sv n41.ok rfl (wn _ rfl) rfl (o_ex (n41.ne rfl n40.at_) rfl) (fun an42 n42 => ?_)
  refine sv n42.ok rfl (wn _ rfl) rfl (o_as (n42.ne rfl n41.at_)) (fun an43 n43 => ?_)
  refine sv n43.ok rfl (wn _ rfl) rfl (o_as (n43.ne rfl n42.at_)) (fun an44 n44 => ?_)
  refine wpList_nil ?_
  refine th_n (hK17 _ _ ?_)
  refine wp_seq_k (fun K45 hK45 => ?_)
  refine wp_region_lit ?_
  have e46 := n44.ne rfl (n43.ne rfl (n42.ne rfl (n41.ne rfl (n40.ne rfl (n32.ne rfl (n30.ne rfl (n29.ne rfl (n21.ne rfl (n19.ne rfl (n18.ne rfl n16.at_))))))))))
  refine sv n44.ok rfl (wn _ rfl) rfl (o_mv e46) (fun an47 n47 => ?_)
  refine sv n47.ok rfl (wn _ rfl) rfl (o_eq (b := true) n47.at_ ev_const (by decide)) (fun an48 n48 => ?_)
  refine sv n48.ok rfl (wn _ rfl) rfl (o_mv n48.at_) (fun an49 n49 => ?_)
  have e50 := n49.ne rfl (n48.ne rfl (n47.ne rfl n44.at_))
  refine sv n49.ok rfl (wgT rfl (yl 2 true rfl n49.at_) rfl) rfl (o_mv e50) (fun an51 n51 => ?_)
  refine sv n51.ok rfl (wgT rfl (yl 2 true rfl (n51.ne rfl n49.at_)) rfl) rfl (o_eq (b := true) n51.at_ ev_const (by decide)) (fun an52 n52 => ?_)
  refine sv n52.ok rfl (wn _ rfl) rfl (o_pkT (n52.ne rfl (n51.ne rfl n49.at_)) n52.at_) (fun an53 n53 => ?_)
  refine sv n53.ok rfl (wn _ rfl) rfl (o_mv n53.at_) (fun an54 n54 => ?_)
  have e55 := n54.ne rfl (n53.ne rfl (n52.ne rfl (n51.ne rfl (n49.ne rfl (n48.ne rfl (n47.ne rfl (n44.ne rfl n43.at_)))))))
  refine sv n54.ok rfl (wgT rfl (yl 6 true rfl n54.at_) rfl) rfl (o_mv e55) (fun an56 n56 => ?_)
  refine sv n56.ok rfl (wgT rfl (yl 6 true rfl (n56.ne rfl n54.at_)) rfl) rfl (o_len n56.at_ Try.underlying22) (fun an57 n57 => ?_)
  refine sv n57.ok rfl (wgT rfl (yl 6 true rfl (n57.ne rfl (n56.ne rfl n54.at_))) rfl) rfl (o_eq (b := true) n57.at_ ev_const (by decide)) (fun an58 n58 => ?_)
  have e59 := n58.ne rfl (n57.ne rfl (n56.ne rfl n54.at_))
  refine sv n58.ok rfl (wn _ rfl) rfl (o_pkT e59 n58.at_) (fun an60 n60 => ?_)
  refine sv n60.ok rfl (wn _ rfl) rfl (o_mv n60.at_) (fun an61 n61 => ?_)
  have e62 := n61.ne rfl (n60.ne rfl (n58.ne rfl (n57.ne rfl (n56.ne rfl e55))))
  refine sv n61.ok rfl (wgT rfl (yl 11 true rfl n61.at_) rfl) rfl (o_mv e62) (fun an63 n63 => ?_)
  obtain ⟨bhz2, fhz2, hz2a, hz2b, hz2c⟩ := (hr2.gr A39) (by intro e; rw [e] at hl2; cases hl2)
  refine sv n63.ok rfl (wgT rfl (yl 11 true rfl (n63.ne rfl n61.at_)) rfl) rfl (o_iaV (i := 0) (s := 8) hz2a n63.at_ ev_const Try.underlying22 (by kernel_rfl) (by omega)) (fun an64 n64 => ?_)
  refine sv n64.ok rfl (wgT rfl (yl 11 true rfl (n64.ne rfl (n63.ne rfl n61.at_))) rfl) rfl (o_fa (z := 2) n64.at_ Try.underlying32 rfl (by kernel_rfl) rfl rfl) (fun an65 n65 => ?_)
  have e66 := n65.ne rfl (n64.ne rfl (n63.ne rfl n61.at_))
  refine sv n65.ok rfl (wgT rfl (yl 11 true rfl e66) rfl) rfl (o_fa (z := 1) n65.at_ Try.underlying24 rfl (by kernel_rfl) rfl rfl) (fun an67 n67 => ?_)
  refine sv n67.ok rfl (wgT rfl (yl 11 true rfl (n67.ne rfl e66)) rfl) rfl (o_ld n67.at_ (Try.isAgg3 _) (hz2c 0 z hz0 1 _ rfl)) (fun an68 n68 => ?_)
  refine sv n68.ok rfl (wgT rfl (yl 11 true rfl (n68.ne rfl (n67.ne rfl e66))) rfl) rfl (o_eq n68.at_ ev_const (decide_eq_true (by rw [hz]; rfl))) (fun an69 n69 => ?_)
  have e70 := n69.ne rfl (n68.ne rfl (n67.ne rfl e66))
  refine sv n69.ok rfl (wn _ rfl) rfl (o_pkT e70 n69.at_) (fun an71 n71 => ?_)
  refine sv n71.ok rfl (wn _ rfl) rfl (o_as n71.at_) (fun an72 n72 => ?_)
  refine wpList_nil ?_
  refine th_n (hK45 _ _ ?_)
  refine wp_ret ?_
  exact ret1 n72.ok rfl (n72.at_) ⟨rfl, G35⟩
end Go.Proofs.Ytoencnbpjjkjnaa

/- shelf.Drop, Get. -/
set_option linter.unusedVariables false
set_option linter.unusedSimpArgs false
namespace Rm
open Go Go.RowKit Gx
def svGet (L : List VerD) (id : List UInt8) : List VerD := L.filter fun x => decide (x.id = id)
def getE (L : List VerD) (id : List UInt8) : Int := if chkShf L = 0 then (if svGet L id = [] then 4 else 0) else chkShf L
def getL (L : List VerD) (id : List UInt8) : List VerD := if chkShf L = 0 then svGet L id else []
theorem keep_nn (L : List VerI) (id : List UInt8) : (L.filter fun x => !decide (¬ x.d.id = id)).map VerI.d = svGet (L.map VerI.d) id := by
  unfold svGet
  rw [← filt_map L (fun x => decide (x.id = id))]
  congr 1
  exact List.filter_congr (fun x _ => by simp)
end Rm
namespace Go.Proofs.Ytoencnbpjjkjnaa
open Go.RowKit Rm Gx
set_option maxHeartbeats 8000000 in
set_option maxRecDepth 100000 in
theorem sget_bad (K : List VerI) (va : Option Addr) (vc : Nat) (id : List UInt8) (hK : ¬ chkShf (K.map VerI.d) = 0) (w : World) (hv : RdA encVr 8 w va K) (hm : MeansV w K) :
    Calls Try.prog 10 #[.slice va K.length vc, .string (bs id)] w fun e w' => ∃ u, e = .returned (.tuple #[u, .int .i64 (getE (K.map VerI.d) id)]) ∧ ResV w.heap.size w' u (getL (K.map VerI.d) id) ∧ Gr w w' := by
  refine enter (N := 20) Try.func10 rfl rfl rfl (fun a0 ok0 h0 => ?_)
  have e0_0 : a0.eval (.tmp 0) = .slice va K.length vc := h0 0 _ rfl
  have e0_1 : a0.eval (.tmp 1) = .string (bs id) := h0 1 _ rfl
  clear h0
  have G0 := Gr.refl w
  refine wp_seq_k (fun K1 hK1 => ?_)
  refine wp_region_lit ?_
  refine sal (cs := #[.string (bs id)]) ok0 rfl (wn _ rfl) rfl (o_box e0_1) (fun an2 w4 b3 W5 n2 => ?_)
  have l6 : w.heap.size ≤ b3 := by rw [W5.eq]; exact G0.size
  have G7 := G0.trans W5.gr
  refine sv n2.ok rfl (wn _ rfl) rfl (o_as ev_const) (fun an8 n8 => ?_)
  refine sv n8.ok rfl (wn _ rfl) rfl (o_as ev_const) (fun an9 n9 => ?_)
  refine wpList_nil ?_
  refine th_n (hK1 _ _ ?_)
  refine wp_seq_k (fun K10 hK10 => ?_)
  refine wp_seq_k (fun K11 hK11 => ?_)
  refine wp_region_lit ?_
  have e12 := n9.ne rfl (n8.ne rfl (n2.ne rfl e0_0))
  refine sv n9.ok rfl (wn _ rfl) rfl (o_mv e12) (fun an13 n13 => ?_)
  refine sc n13.ok rfl (wn _ rfl) rfl (o_f1 Try.func17 rfl rfl rfl n13.at_) (vchk_any K va vc w4 (hv.gr G7) (hm.gr G7)) ?_
  rintro _ w15 ⟨rfl, g16⟩
  refine ⟨_, rfl, fun an14 n14 => ?_⟩
  have G17 := G7.trans g16
  have B18 := W5.bk.gr g16
  refine sv n14.ok rfl (wn _ rfl) rfl (o_as n14.at_) (fun an19 n19 => ?_)
  refine wpList_nil ?_
  refine th_n (hK11 _ _ ?_)
  refine wp_seq_k (fun K20 hK20 => ?_)
  refine wp_region_lit ?_
  refine sv n19.ok rfl (wn _ rfl) rfl (o_mv n19.at_) (fun an21 n21 => ?_)
  refine sv n21.ok rfl (wn _ rfl) rfl (o_neq (b := true) n21.at_ ev_const (by simp [show ¬ (chkShf (K.map VerI.d)) = 0 from hK])) (fun an22 n22 => ?_)
  refine wpList_nil ?_
  refine th_n (hK20 _ _ ?_)
  refine wp_cond_true (n22.at_) ?_
  refine wp_seq_k (fun K23 hK23 => ?_)
  refine wp_region_lit ?_
  refine sv n22.ok rfl (wn _ rfl) rfl (o_mv (n22.ne rfl (n21.ne rfl n19.at_))) (fun an24 n24 => ?_)
  refine sv n24.ok rfl (wn _ rfl) rfl (o_as ev_const) (fun an25 n25 => ?_)
  refine sv n25.ok rfl (wn _ rfl) rfl (o_as (n25.ne rfl n24.at_)) (fun an26 n26 => ?_)
  refine wpList_nil ?_
  refine th_n (hK23 _ _ ?_)
  refine wp_ret ?_
  refine th_r ?_
  exact ret2 n26.ok rfl ((n26.ne rfl n25.at_)) (n26.at_) ⟨_, congrArg (fun n => Ending.returned (.tuple #[_, .int .i64 n])) (Eq.symm (by unfold getE; rw [if_neg hK])), by unfold getL; rw [if_neg hK]; exact ResV.nil _ _, G17⟩
set_option maxHeartbeats 8000000 in
set_option maxRecDepth 100000 in
theorem sget_ok (K : List VerI) (va : Option Addr) (vc : Nat) (id : List UInt8) (hK : OkS (K.map VerI.d)) (w : World) (hv : RdA encVr 8 w va K) (hm : MeansV w K) :
    Calls Try.prog 10 #[.slice va K.length vc, .string (bs id)] w fun e w' => ∃ u, e = .returned (.tuple #[u, .int .i64 (getE (K.map VerI.d) id)]) ∧ ResV w.heap.size w' u (getL (K.map VerI.d) id) ∧ Gr w w' := by
  refine enter (N := 20) Try.func10 rfl rfl rfl (fun a0 ok0 h0 => ?_)
  have e0_0 : a0.eval (.tmp 0) = .slice va K.length vc := h0 0 _ rfl
  have e0_1 : a0.eval (.tmp 1) = .string (bs id) := h0 1 _ rfl
  clear h0
  have G0 := Gr.refl w
  have hlen : K.length ≤ 60 := by have := hK.len; simpa using this
  have hok : ∀ x ∈ K, okVr x := fun x hx => hK.one _ (List.mem_map_of_mem hx)
  refine wp_seq_k (fun K1 hK1 => ?_)
  refine wp_region_lit ?_
  refine sal (cs := #[.string (bs id)]) ok0 rfl (wn _ rfl) rfl (o_box e0_1) (fun an2 w4 b3 W5 n2 => ?_)
  have l6 : w.heap.size ≤ b3 := by rw [W5.eq]; exact G0.size
  have G7 := G0.trans W5.gr
  refine sv n2.ok rfl (wn _ rfl) rfl (o_as ev_const) (fun an8 n8 => ?_)
  refine sv n8.ok rfl (wn _ rfl) rfl (o_as ev_const) (fun an9 n9 => ?_)
  refine wpList_nil ?_
  refine th_n (hK1 _ _ ?_)
  refine wp_seq_k (fun K10 hK10 => ?_)
  refine wp_seq_k (fun K11 hK11 => ?_)
  refine wp_region_lit ?_
  have e12 := n9.ne rfl (n8.ne rfl (n2.ne rfl e0_0))
  refine sv n9.ok rfl (wn _ rfl) rfl (o_mv e12) (fun an13 n13 => ?_)
  refine sc n13.ok rfl (wn _ rfl) rfl (o_f1 Try.func17 rfl rfl rfl n13.at_) (by have h := vchk_any K va vc w4 (hv.gr G7) (hm.gr G7); rw [(okS_iff _).2 hK] at h; exact h) ?_
  rintro _ w15 ⟨rfl, g16⟩
  refine ⟨_, rfl, fun an14 n14 => ?_⟩
  have G17 := G7.trans g16
  have B18 := W5.bk.gr g16
  refine sv n14.ok rfl (wn _ rfl) rfl (o_as n14.at_) (fun an19 n19 => ?_)
  refine wpList_nil ?_
  refine th_n (hK11 _ _ ?_)
  refine wp_seq_k (fun K20 hK20 => ?_)
  refine wp_region_lit ?_
  refine sv n19.ok rfl (wn _ rfl) rfl (o_mv n19.at_) (fun an21 n21 => ?_)
  refine sv n21.ok rfl (wn _ rfl) rfl (o_neq (b := false) n21.at_ ev_const (by decide)) (fun an22 n22 => ?_)
  refine wpList_nil ?_
  refine th_n (hK20 _ _ ?_)
  refine wp_cond_false (n22.at_) ?_
  refine wp_skip ?_
  refine th_n (hK10 _ _ ?_)
  refine wp_seq_k (fun K23 hK23 => ?_)
  refine wp_region_lit ?_
  have e24 := n22.ne rfl (n21.ne rfl (n19.ne rfl (n14.ne rfl (n13.ne rfl e12))))
  refine sv n22.ok rfl (wn _ rfl) rfl (o_mv e24) (fun an25 n25 => ?_)
  have e26 := n25.ne rfl (n22.ne rfl (n21.ne rfl (n19.ne rfl (n14.ne rfl (n13.ne rfl (n9.ne rfl (n8.ne rfl n2.at_)))))))
  refine sv n25.ok rfl (wn _ rfl) rfl (o_mf (fs := []) (cs := [.pointer (some ⟨b3, 0, none⟩)]) (by simp) (by simp [e26])) (fun an27 n27 => ?_)
  obtain ⟨basew, z28⟩ : ∃ n, n = w15.heap.size := ⟨_, rfl⟩
  have l29 : b3 < basew := by rw [z28]; exact B18.lt
  have l30 : w.heap.size ≤ basew := by rw [z28]; exact G17.size
  have z31 : basew ≤ w15.heap.size := Nat.le_of_eq z28
  refine sc n27.ok rfl (wn _ rfl) rfl (o_f2 Try.func42 rfl rfl rfl (n27.ne rfl n25.at_) n27.at_) (without_any K va vc _ [.pointer (some ⟨b3, 0, none⟩)] (fun x => decide (¬ x.d.id = id)) ⟨_, Try.func43, rfl, rfl⟩ (by omega) hok w15 (hv.gr G17) (hm.gr G17) (fun x hx w1 g1 => get1_any x b3 id w1 (B18.gr g1))) ?_
  rintro _ w33 ⟨Rw, vw, rfl, hRw, hOw, hPw, g34⟩
  obtain ⟨raw, rcw, rfl, -⟩ := ow_form hOw
  rw [← z28] at hOw hPw
  refine ⟨_, rfl, fun an32 n32 => ?_⟩
  have G35 := G17.trans g34
  have B36 := B18.gr g34
  have z37 := Nat.le_trans z31 g34.size
  refine sv n32.ok rfl (wn _ rfl) rfl (o_as n32.at_) (fun an38 n38 => ?_)
  refine wpList_nil ?_
  refine th_n (hK23 _ _ ?_)
  refine wp_seq_k (fun K39 hK39 => ?_)
  refine wp_seq_k (fun K40 hK40 => ?_)
  refine wp_region_lit ?_
  refine sv n38.ok rfl (wn _ rfl) rfl (o_mv n38.at_) (fun an41 n41 => ?_)
  refine sv n41.ok rfl (wn _ rfl) rfl (o_len n41.at_ Try.underlying22) (fun an42 n42 => ?_)
  refine sv n42.ok rfl (wn _ rfl) rfl (o_eqI n42.at_ ev_const) (fun an43 n43 => ?_)
  refine wpList_nil ?_
  refine th_n (hK40 _ _ ?_)
  by_cases c44 : ((Rw.length : Nat) : Int) = 0
  · refine wp_cond_true ((n43.at_).trans (congrArg Value.bool (decide_eq_true c44))) ?_
    refine wp_seq_k (fun K45 hK45 => ?_)
    refine wp_region_lit ?_
    refine sv n43.ok rfl (wn _ rfl) rfl (o_as ev_const) (fun an46 n46 => ?_)
    refine sv n46.ok rfl (wn _ rfl) rfl (o_as ev_const) (fun an47 n47 => ?_)
    refine wpList_nil ?_
    refine th_n (hK45 _ _ ?_)
    refine wp_ret ?_
    refine th_r ?_
    have hfin : Rw.map VerI.d = svGet (K.map VerI.d) id := by rw [hRw]; exact keep_nn K id
    have hnil : svGet (K.map VerI.d) id = [] := by rw [← hfin]; exact List.map_eq_nil_iff.2 (List.eq_nil_of_length_eq_zero (by omega))
    exact ret2 n47.ok rfl ((n47.ne rfl n46.at_)) (n47.at_) ⟨_, congrArg (fun n => Ending.returned (.tuple #[_, .int .i64 n])) (Eq.symm (by unfold getE; rw [if_pos ((okS_iff _).2 hK), if_pos hnil])), by unfold getL; rw [if_pos ((okS_iff _).2 hK), hnil]; exact ResV.nil _ _, G35⟩
  · refine wp_cond_false ((n43.at_).trans (congrArg Value.bool (decide_eq_false c44))) ?_
    refine wp_skip ?_
    refine th_n (hK39 _ _ ?_)
    refine wp_seq_k (fun K48 hK48 => ?_)
    refine wp_region_lit ?_
    have e49 := n43.ne rfl (n42.ne rfl (n41.ne rfl n38.at_))
    refine sv n43.ok rfl (wn _ rfl) rfl (o_mv e49) (fun an50 n50 => ?_)
    refine sv n50.ok rfl (wn _ rfl) rfl (o_as n50.at_) (fun an51 n51 => ?_)
    refine sv n51.ok rfl (wn _ rfl) rfl (o_as ev_const) (fun an52 n52 => ?_)
    refine wpList_nil ?_
    refine th_n (hK48 _ _ ?_)
    refine wp_ret ?_
    have hfin : Rw.map VerI.d = svGet (K.map VerI.d) id := by rw [hRw]; exact keep_nn K id
    have hnil : ¬ svGet (K.map VerI.d) id = [] := by rw [← hfin]; intro e; have h0 := congrArg List.length (List.map_eq_nil_iff.1 e); rw [List.length_nil] at h0; omega
    exact ret2 n52.ok rfl ((n52.ne rfl n51.at_)) (n52.at_) ⟨_, congrArg (fun n => Ending.returned (.tuple #[_, .int .i64 n])) (Eq.symm (by unfold getE; rw [if_pos ((okS_iff _).2 hK), if_neg hnil])), by unfold getL; rw [if_pos ((okS_iff _).2 hK)]; exact ⟨Rw, hfin, ow_lessb hOw l30, hPw.base l30⟩, G35⟩
theorem sget_r (K : List VerI) (va : Option Addr) (vc : Nat) (id : List UInt8) (w : World) (hv : RdA encVr 8 w va K) (hm : MeansV w K) (L : List VerD) (hK : K.map VerI.d = L) :
    Calls Try.prog 10 #[.slice va K.length vc, .string (bs id)] w fun e w' => ∃ (R : List VerI) (a : Option Addr) (c : Nat), e = .returned (.tuple #[.slice a R.length c, .int .i64 (getE L id)]) ∧ R.map VerI.d = getL L id ∧ RdA encVr 8 w' a R ∧ MeansV w' R ∧ Gr w w' := by
  subst hK
  have key : Calls Try.prog 10 #[.slice va K.length vc, .string (bs id)] w fun e w' => ∃ u, e = .returned (.tuple #[u, .int .i64 (getE (K.map VerI.d) id)]) ∧ ResV w.heap.size w' u (getL (K.map VerI.d) id) ∧ Gr w w' := by
    by_cases h1 : chkShf (K.map VerI.d) = 0
    · exact sget_ok K va vc id ((okS_iff _).1 h1) w hv hm
    · exact sget_bad K va vc id h1 w hv hm
  refine key.mono ?_
  rintro e w' ⟨u, rfl, ⟨R, h1, h2, h3⟩, g⟩
  obtain ⟨a, c, rfl, -⟩ := ow_form h2
  exact ⟨R, a, c, rfl, h1, RdA.own encVr_ok h2 rfl, h3.mean, g⟩
end Go.Proofs.Ytoencnbpjjkjnaa

/- Shapiro: what a store is after puts in any order: the versions that no other one supersedes. -/
set_option linter.unusedVariables false
set_option linter.unusedSimpArgs false
namespace Rm
open Go Go.RowKit Gx
/-- versions as sites make them -/
structure TR (T : List VerD) : Prop where
  one : ∀ x ∈ T, chkOne x = 0
  key : ∀ x ∈ T, ∀ y ∈ T, keyV x y → x = y
  trans : ∀ v ∈ T, ∀ w ∈ T, ∀ x ∈ T, ovB v w = true → ovB w x = true → ovB v x = true
  len : T.length ≤ 60
def maxS (S : List VerD) (x : VerD) : Prop := x ∈ S ∧ ∀ z ∈ S, ovB z x = false
theorem filter_lt {α : Type} {p q : α → Bool} : ∀ {S : List α}, (∀ x ∈ S, p x = true → q x = true) → (∃ z ∈ S, q z = true ∧ p z = false) → (S.filter p).length < (S.filter q).length
  | [], _, ⟨z, hz, _⟩ => by cases hz
  | a :: S, h, ⟨z, hz, h1, h2⟩ => by
    have hle : ∀ S : List α, (∀ x ∈ S, p x = true → q x = true) → (S.filter p).length ≤ (S.filter q).length := by
      intro S
      induction S with
      | nil => intro _; exact Nat.le_refl _
      | cons b S ih =>
        intro hb
        have := ih (fun x hx => hb x (List.mem_cons_of_mem _ hx))
        have h3 := hb b (List.mem_cons_self ..)
        cases hp : p b <;> cases hq : q b <;> simp [hp, hq] <;> first | omega | (rw [hp, hq] at h3; exact absurd (h3 rfl) (by simp))
    have hS : ∀ x ∈ S, p x = true → q x = true := fun x hx => h x (List.mem_cons_of_mem _ hx)
    rcases List.mem_cons.1 hz with rfl | hz
    · have := hle S hS
      simp [h1, h2]
      omega
    · have := filter_lt hS ⟨z, hz, h1, h2⟩
      have h3 := h a (List.mem_cons_self ..)
      cases hp : p a <;> cases hq : q a <;> simp [hp, hq] <;> first | omega | (rw [hp, hq] at h3; exact absurd (h3 rfl) (by simp))
/-- whatever is superseded is superseded by one that is not -/
theorem maxS_over {T S : List VerD} (hT : TR T) (hS : ∀ x ∈ S, x ∈ T) : ∀ (n : Nat) (y : VerD), y ∈ T → (S.filter fun z => ovB z y).length ≤ n → (∃ z ∈ S, ovB z y = true) → ∃ x, maxS S x ∧ ovB x y = true := by
  intro n
  induction n with
  | zero =>
    rintro y hy hn ⟨z, hz, h⟩
    have : z ∈ S.filter fun z => ovB z y := List.mem_filter.2 ⟨hz, h⟩
    rw [List.eq_nil_of_length_eq_zero (Nat.le_zero.1 hn)] at this
    cases this
  | succ n ih =>
    rintro y hy hn ⟨z, hz, h⟩
    by_cases hm : ∀ z' ∈ S, ovB z' z = false
    · exact ⟨z, ⟨hz, hm⟩, h⟩
    · have : ∃ z' ∈ S, ovB z' z = true := by
        by_cases q : ∃ z' ∈ S, ovB z' z = true
        · exact q
        · exact absurd (fun z' hz' => by
            cases e : ovB z' z
            · rfl
            · exact absurd ⟨z', hz', e⟩ q) hm
      have hlt : (S.filter fun u => ovB u z).length < (S.filter fun u => ovB u y).length :=
        filter_lt (fun u hu hu' => hT.trans u (hS u hu) z (hS z hz) y hy hu' h) ⟨z, hz, h, ovB_self (hT.one z (hS z hz))⟩
      obtain ⟨x, hx, h1⟩ := ih z (hS z hz) (by omega) this
      exact ⟨x, hx, hT.trans x (hS x hx.1) z (hS z hz) y hy h1 h⟩
theorem sort_len : ∀ {L T : List VerD}, L.Pairwise ltV → (∀ x ∈ L, x ∈ T) → L.length ≤ T.length
  | [], _, _, _ => Nat.zero_le _
  | a :: L, T, h, hT => by
    obtain ⟨h1, h2⟩ := List.pairwise_cons.1 h
    have ha := hT a (List.mem_cons_self ..)
    have := sort_len (T := T.erase a) h2 (fun x hx => (List.mem_erase_of_ne (fun e => ltV_irr a (by have := h1 x hx; rwa [e] at this))).2 (hT x (List.mem_cons_of_mem _ hx)))
    rw [List.length_erase_of_mem ha] at this
    have hp := List.length_pos_of_mem ha
    rw [List.length_cons]
    omega
theorem sortV_ext : ∀ {L L' : List VerD}, L.Pairwise ltV → L'.Pairwise ltV → (∀ x, x ∈ L ↔ x ∈ L') → L = L'
  | [], [], _, _, _ => rfl
  | [], b :: _, _, _, e => absurd ((e b).2 (List.mem_cons_self ..)) (by simp)
  | a :: _, [], _, _, e => absurd ((e a).1 (List.mem_cons_self ..)) (by simp)
  | a :: L, b :: L', h, h', e => by
    obtain ⟨h1, h2⟩ := List.pairwise_cons.1 h
    obtain ⟨h3, h4⟩ := List.pairwise_cons.1 h'
    have hab : a = b := by
      rcases List.mem_cons.1 ((e a).1 (List.mem_cons_self ..)) with q | q
      · exact q
      · rcases List.mem_cons.1 ((e b).2 (List.mem_cons_self ..)) with r | r
        · exact r.symm
        · exact absurd (ltV_trans (h1 b r) (h3 a q)) (ltV_irr a)
    subst hab
    rw [sortV_ext h2 h4 (fun x => ?_)]
    constructor
    · intro hx
      rcases List.mem_cons.1 ((e x).1 (List.mem_cons_of_mem _ hx)) with rfl | q
      · exact absurd (h1 x hx) (ltV_irr x)
      · exact q
    · intro hx
      rcases List.mem_cons.1 ((e x).2 (List.mem_cons_of_mem _ hx)) with rfl | q
      · exact absurd (h3 x hx) (ltV_irr x)
      · exact q
/-- a store that holds just what nothing in S supersedes -/
structure IsMax (S L : List VerD) : Prop where
  ok : OkS L
  mem : ∀ x, x ∈ L ↔ maxS S x
theorem IsMax.nil : IsMax [] [] := ⟨⟨by simp, fun x hx => (by cases hx), List.Pairwise.nil, fun v hv => (by cases hv)⟩, fun x => ⟨fun h => (by cases h), fun h => (by cases h.1)⟩⟩
theorem IsMax.congr {S S' L : List VerD} (h : IsMax S L) (e : ∀ x, x ∈ S ↔ x ∈ S') : IsMax S' L := ⟨h.ok, fun x => by
  rw [h.mem]
  unfold maxS
  constructor
  · rintro ⟨h1, h2⟩; exact ⟨(e x).1 h1, fun z hz => h2 z ((e z).2 hz)⟩
  · rintro ⟨h1, h2⟩; exact ⟨(e x).2 h1, fun z hz => h2 z ((e z).1 hz)⟩⟩
theorem IsMax.uniq {S L L' : List VerD} (h : IsMax S L) (h' : IsMax S L') : L = L' := sortV_ext h.ok.sort h'.ok.sort fun x => (h.mem x).trans (h'.mem x).symm
theorem max_put {T S L : List VerD} {y : VerD} (hT : TR T) (hS : ∀ x ∈ S, x ∈ T) (hy : y ∈ T) (h : IsMax S L) : putE L y = 0 ∧ IsMax (y :: S) (putL L y) := by
  have hL : ∀ x ∈ L, x ∈ T := fun x hx => hS x ((h.mem x).1 hx).1
  have h0 := (okS_iff L).2 h.ok
  have h1 := hT.one y hy
  by_cases hh : svHeld L y = true
  · obtain ⟨e1, e2⟩ := put_held h0 h1 hh
    refine ⟨e1, by rw [e2]; exact h.ok, fun x => ?_⟩
    rw [e2, h.mem]
    unfold svHeld at hh
    rw [Bool.or_eq_true] at hh
    rcases hh with hh | hh
    · obtain ⟨z, hz, q⟩ := List.any_eq_true.1 hh
      rw [decide_eq_true_eq, cmpV_eq] at q
      have e := hT.key z (hL z hz) y hy q
      subst e
      have hzS := ((h.mem z).1 hz).1
      unfold maxS
      constructor
      · rintro ⟨k1, k2⟩
        refine ⟨List.mem_cons_of_mem _ k1, fun u hu => ?_⟩
        rcases List.mem_cons.1 hu with rfl | hu
        · exact k2 u hzS
        · exact k2 u hu
      · rintro ⟨k1, k2⟩
        refine ⟨?_, fun u hu => k2 u (List.mem_cons_of_mem _ hu)⟩
        rcases List.mem_cons.1 k1 with rfl | k1
        · exact hzS
        · exact k1
    · obtain ⟨z, hz, q⟩ := List.any_eq_true.1 hh
      have hzm := (h.mem z).1 hz
      unfold maxS
      constructor
      · rintro ⟨k1, k2⟩
        refine ⟨List.mem_cons_of_mem _ k1, fun u hu => ?_⟩
        rcases List.mem_cons.1 hu with rfl | hu
        · cases e : ovB u x
          · rfl
          · have := hT.trans z (hL z hz) u hy x (hS x k1) q e
            rw [k2 z hzm.1] at this
            cases this
        · exact k2 u hu
      · rintro ⟨k1, k2⟩
        rcases List.mem_cons.1 k1 with rfl | k1
        · rw [k2 z (List.mem_cons_of_mem _ hzm.1)] at q
          cases q
        · exact ⟨k1, fun u hu => k2 u (List.mem_cons_of_mem _ hu)⟩
  · have hh' : svHeld L y = false := by simpa using hh
    have hn : ∀ z ∈ S, ovB z y = false := fun z hz => by
      cases e : ovB z y
      · rfl
      · obtain ⟨x, hx, q⟩ := maxS_over hT hS _ y hy (Nat.le_refl _) ⟨z, hz, e⟩
        exfalso
        apply hh
        unfold svHeld
        rw [Bool.or_eq_true]
        exact .inr (List.any_eq_true.2 ⟨x, (h.mem x).2 hx, q⟩)
    have hmem : ∀ x, x ∈ svIns (svKeep L y) y ↔ maxS (y :: S) x := fun x => by
      rw [svIns_mem]
      unfold svKeep maxS
      rw [List.mem_filter]
      constructor
      · rintro (rfl | ⟨k1, k2⟩)
        · refine ⟨List.mem_cons_self .., fun u hu => ?_⟩
          rcases List.mem_cons.1 hu with rfl | hu
          · exact ovB_self h1
          · exact hn u hu
        · have k3 := (h.mem x).1 k1
          refine ⟨List.mem_cons_of_mem _ k3.1, fun u hu => ?_⟩
          rcases List.mem_cons.1 hu with rfl | hu
          · simpa using k2
          · exact k3.2 u hu
      · rintro ⟨k1, k2⟩
        rcases List.mem_cons.1 k1 with rfl | k1
        · exact .inl rfl
        · exact .inr ⟨(h.mem x).2 ⟨k1, fun u hu => k2 u (List.mem_cons_of_mem _ hu)⟩, by rw [k2 y (List.mem_cons_self ..)]; rfl⟩
    have hlt : ¬ (svKeep L y).length = 60 := by
      intro e
      have hk := svKeep_ok h.ok (fun x => !ovB y x)
      have hkl : (svKeep L y).Pairwise ltV := hk.sort
      have hne : ∀ x ∈ svKeep L y, x ≠ y := fun x hx e => by
        subst e
        apply hh
        exact held_of (List.mem_filter.1 hx).1
      have hsub : ∀ x ∈ svKeep L y, x ∈ T.erase y := fun x hx => (List.mem_erase_of_ne (hne x hx)).2 (hL x (List.mem_filter.1 hx).1)
      have := sort_len hkl hsub
      rw [List.length_erase_of_mem hy, e] at this
      have hl := hT.len
      have hp := List.length_pos_of_mem hy
      omega
    have e1 : putE L y = 0 := by unfold putE; rw [if_pos h0, if_pos h1, if_neg hh, if_neg hlt]
    have e2 : putL L y = svIns (svKeep L y) y := by unfold putL; rw [if_pos h0, if_pos h1, if_neg hh, if_neg hlt]
    exact ⟨e1, by rw [e2]; exact svPut_ok h.ok h1 hh' hlt, by rw [e2]; exact hmem⟩
/-- puts one behind the other -/
def layL (Y : List VerD) : List VerD := Y.foldl putL []
theorem layL_at {Y : List VerD} {i : Nat} {x : VerD} (h : Y[i]? = some x) : layL (Y.take (i + 1)) = putL (layL (Y.take i)) x := by
  unfold layL
  rw [List.take_add_one, h, List.foldl_append]
  rfl
theorem lay_max {T Y : List VerD} (hT : TR T) (hY : ∀ x ∈ Y, x ∈ T) : ∀ i, i ≤ Y.length → IsMax (Y.take i) (layL (Y.take i))
  | 0, _ => by rw [List.take_zero]; exact IsMax.nil
  | i + 1, hi => by
    have hx := List.getElem?_eq_getElem (show i < Y.length by omega)
    rw [layL_at hx]
    have h := lay_max hT hY i (by omega)
    refine (max_put hT (fun x hx => hY x (List.mem_of_mem_take hx)) (hY _ (List.getElem_mem _)) h).2.congr fun x => ?_
    rw [List.take_add_one, hx]
    simp only [List.mem_cons, List.mem_append, Option.toList_some, List.mem_nil_iff, or_false]
    exact Or.comm
theorem lay_ok {T Y : List VerD} (hT : TR T) (hY : ∀ x ∈ Y, x ∈ T) {i : Nat} {x : VerD} (hx : Y[i]? = some x) : putE (layL (Y.take i)) x = 0 :=
  (max_put hT (fun x hx => hY x (List.mem_of_mem_take hx)) (hY _ (List.mem_of_getElem? hx)) (lay_max hT hY i (Nat.le_of_lt (List.getElem?_eq_some_iff.1 hx).1))).1
theorem lay_is {T Y : List VerD} (hT : TR T) (hY : ∀ x ∈ Y, x ∈ T) : IsMax Y (layL Y) := by
  have := lay_max hT hY Y.length (Nat.le_refl _)
  rwa [List.take_of_length_le (Nat.le_refl _)] at this
theorem IsMax.sub {S L T : List VerD} (h : IsMax S L) (hS : ∀ x ∈ S, x ∈ T) : ∀ x ∈ L, x ∈ T := fun x hx => hS x ((h.mem x).1 hx).1
end Rm

/- reedkeep.laid. -/
set_option linter.unusedVariables false
set_option linter.unusedSimpArgs false
namespace Go.Proofs.Ytoencnbpjjkjnaa
open Go.RowKit Rm Gx
theorem ow_capf {w : World} {base s n c : Nat} {t : TypeId} {a : Option Addr} {xs : List Value} (h : w.ownsRow base t s (.slice a n c) n xs) : n ≤ c ∧ (a = none → c = 0) := by
  obtain ⟨-, ⟨e, hn⟩ | ⟨g, cap, cur, e, -, -, hc, -⟩⟩ := h
  · injection e with e1 e2 e3
    subst hn e3
    exact ⟨Nat.le_refl _, fun _ => rfl⟩
  · injection e with e1 e2 e3
    subst e1 e3
    exact ⟨hc, fun q => by cases q⟩
theorem sput_c (K : List VerI) (y : VerI) (va : Option Addr) (vc : Nat) (w : World) (hv : RdA encVr 8 w va K) (hm : MeansV w K) (hmy : MeanV w y) (L : List VerD) (hK : K.map VerI.d = L) :
    Calls Try.prog 34 #[.slice va K.length vc, .agg (encVr y).toArray] w fun e w' => ∃ (R : List VerI) (a : Option Addr) (c : Nat), e = .returned (.tuple #[.slice a R.length c, .int .i64 (putE L y.d)]) ∧ R.map VerI.d = putL L y.d ∧ RdA encVr 8 w' a R ∧ MeansV w' R ∧ (R.length ≤ c ∧ (a = none → c = 0)) ∧ Gr w w' := by
  subst hK
  refine (sput_any K y va vc w hv hm hmy).mono ?_
  rintro e w' ⟨u, rfl, ⟨R, h1, h2, h3⟩, g⟩
  obtain ⟨a, c, rfl, -⟩ := ow_form h2
  exact ⟨R, a, c, rfl, h1, RdA.own encVr_ok h2 rfl, h3.mean, ow_capf h2, g⟩
set_option maxHeartbeats 8000000 in
set_option maxRecDepth 100000 in
theorem laid_any (K : List VerI) (va : Option Addr) (vc : Nat) (hl : K.length ≤ 1000) (hp : ∀ (i : Nat) (x : VerD), (K.map VerI.d)[i]? = some x → putE (layL ((K.map VerI.d).take i)) x = 0) (w : World) (hv : RdA encVr 8 w va K) (hm : MeansV w K) :
    Calls Try.prog 25 #[.slice va K.length vc] w fun e w' => ∃ (R : List VerI) (a : Option Addr) (c : Nat), e = .returned (.tuple #[.slice a R.length c, .bool true]) ∧ R.map VerI.d = layL (K.map VerI.d) ∧ RdA encVr 8 w' a R ∧ MeansV w' R ∧ (R.length ≤ c ∧ (a = none → c = 0)) ∧ Gr w w' := by
  refine enter (N := 27) Try.func25 rfl rfl rfl (fun a0 ok0 h0 => ?_)
  have e0_0 : a0.eval (.tmp 0) = .slice va K.length vc := h0 0 _ rfl
  clear h0
  have G0 := Gr.refl w
  refine wp_seq_k (fun K1 hK1 => ?_)
  refine wp_region_lit ?_
  refine sv ok0 rfl (wn _ rfl) rfl (o_as ev_const) (fun an2 n2 => ?_)
  refine sv n2.ok rfl (wn _ rfl) rfl (o_as ev_const) (fun an3 n3 => ?_)
  refine wpList_nil ?_
  refine th_n (hK1 _ _ ?_)
  refine wp_seq_k (fun K4 hK4 => ?_)
  refine wp_region_lit ?_
  refine sv n3.ok rfl (wn _ rfl) rfl (o_as ev_const) (fun an5 n5 => ?_)
  refine wpList_nil ?_
  refine th_n (hK4 _ _ ?_)
  refine wp_seq_k (fun K6 hK6 => ?_)
  refine wp_seq_k (fun K7 hK7 => ?_)
  refine wp_region_lit ?_
  have e8 := n5.ne rfl (n3.ne rfl (n2.ne rfl e0_0))
  refine sv n5.ok rfl (wn _ rfl) rfl (o_mv e8) (fun an9 n9 => ?_)
  refine sv n9.ok rfl (wn _ rfl) rfl (o_len n9.at_ Try.underlying22) (fun an10 n10 => ?_)
  refine sv n10.ok rfl (wn _ rfl) rfl (o_mv ev_const) (fun an11 n11 => ?_)
  refine wpList_nil ?_
  refine th_n (hK7 _ _ ?_)
  refine wp_block ?_
  have e13 := n11.ne rfl (n10.ne rfl (n9.ne rfl (n5.ne rfl (n3.ne rfl n2.at_))))
  have e14 := n11.ne rfl (n10.ne rfl (n9.ne rfl (n5.ne rfl n3.at_)))
  have e15 := n11.ne rfl (n10.ne rfl (n9.ne rfl n5.at_))
  refine lp (fun (nL : Nat) (aL : Act) (wL : World) => ∃ i : Nat, ∃ R : List VerI, ∃ ra : Option Addr, ∃ rc : Nat, ∃ wa : World, nL = K.length - i ∧ Ok 27 aL ∧ Gr w wL ∧ (aL.eval (.tmp 2) = .slice none 0 0) ∧ (aL.eval (.tmp 3) = .bool false) ∧ (aL.eval (.tmp 4) = .slice ra R.length rc) ∧ (aL.eval (.tmp 9) = .slice va K.length vc) ∧ (aL.eval (.tmp 10) = .int .i64 ((K.length : Nat) : Int)) ∧ (aL.eval (.tmp 11) = .int .i64 (i : Int)) ∧ (Gr wa wL) ∧ (i ≤ K.length) ∧ (R.map VerI.d = layL ((K.map VerI.d).take i)) ∧ (RdA encVr 8 wa ra R) ∧ (MeansV wa R) ∧ (R.length ≤ rc ∧ (ra = none → rc = 0))) _ ⟨0, [], none, 0, w, rfl, n11.ok, G0, e13, e14, e15, (n11.ne rfl (n10.ne rfl n9.at_)), (n11.ne rfl n10.at_), n11.at_, G0, by omega, rfl, fun h => absurd rfl h, fun x hx => (by cases hx), ⟨Nat.le_refl _, fun _ => rfl⟩⟩ ?_
  rintro m16 aI12 w18 ⟨i, R, ra, rc, wa, hmI12, okI12, GI12, s2I12, s3I12, s4I12, s9I12, s10I12, s11I12, fanI12, hiI12, hRI12, hrdI12, hmnI12, hcpI12⟩ KI12 hKI12
  refine wp_seq_k (fun K19 hK19 => ?_)
  refine wp_region_lit ?_
  refine sv okI12 rfl (wn _ rfl) rfl (o_ltI s11I12 s10I12) (fun an20 n20 => ?_)
  refine wpList_nil ?_
  refine th_n (hK19 _ _ ?_)
  refine wp_seq_k (fun K21 hK21 => ?_)
  by_cases c22 : (i : Int) < ((K.length : Nat) : Int)
  · refine wp_cond_true ((n20.at_).trans (congrArg Value.bool (decide_eq_true c22))) ?_
    refine wp_skip ?_
    refine th_n (hK21 _ _ ?_)
    refine wp_seq_k (fun K23 hK23 => ?_)
    refine wp_block ?_
    refine wp_seq_k (fun K24 hK24 => ?_)
    refine wp_region_lit ?_
    have h25l : i < List.length K := by omega
    obtain ⟨bh25, fh25, h25a, h25b, h25c⟩ := hv (ne_nil_of_lt h25l)
    obtain ⟨xh25, h25x⟩ : ∃ x, (K)[i]? = some x := ⟨_, List.getElem?_eq_getElem h25l⟩
    refine sv n20.ok rfl (wn _ rfl) rfl (o_iaV (i := i) (s := 8) h25a (n20.ne rfl s9I12) (n20.ne rfl s11I12) Try.underlying22 (by kernel_rfl) h25l) (fun an26 n26 => ?_)
    refine sv n26.ok rfl (wn _ rfl) rfl (o_ldA (k := fh25 + i * 8) n26.at_ (cs := [.string (bs xh25.d.id), .int .i64 (xh25.d.s), .int .i64 (xh25.d.c), .int .i64 (xh25.d.t), .int .i64 (xh25.d.n), .int .i64 (xh25.d.b), .slice xh25.va xh25.d.V.length xh25.vc, .slice xh25.ma xh25.d.M.length xh25.mc]) (fun j v hv => (Below.cell GI12 h25b).trans (h25c _ _ h25x j v hv)) Try.underlying32 rfl (by kernel_rfl)) (fun an27 n27 => ?_)
    refine sal (cs := #[.string (bs []), .int .i64 0, .int .i64 0, .int .i64 0, .int .i64 0, .int .i64 0, .slice none 0 0, .slice none 0 0]) n27.ok rfl (wn _ rfl) rfl (o_al (z := .agg #[.string (bs []), .int .i64 0, .int .i64 0, .int .i64 0, .int .i64 0, .int .i64 0, .slice none 0 0, .slice none 0 0]) (by kernel_rfl)) (fun an28 w30 b29 W31 n28 => ?_)
    have l32 : w.heap.size ≤ b29 := by rw [W31.eq]; exact GI12.size
    have l33 : wa.heap.size ≤ b29 := by rw [W31.eq]; exact fanI12.size
    have G34 := GI12.trans W31.gr
    have F35 := Gr.trans fanI12 W31.gr
    refine ssR rfl (wn _ rfl) (o_stR n28.at_ (n28.ne rfl n27.at_) W31.bk (by kernel_rfl) rfl (by simp [Value.oneCell'])) W31.bk (fun w36 u37 u37b => ?_)
    have G38 : Gr w w36 := Below.upd G34 l32 u37
    have F39 := Below.upd F35 l33 u37
    refine wpList_nil ?_
    refine th_n (hK24 _ _ ?_)
    refine wp_seq_k (fun K40 hK40 => ?_)
    refine wp_region_lit ?_
    have e41 := n28.ne rfl (n27.ne rfl (n26.ne rfl (n20.ne rfl s4I12)))
    refine sv n28.ok rfl (wn _ rfl) rfl (o_mv e41) (fun an42 n42 => ?_)
    refine sv n42.ok rfl (wn _ rfl) rfl (o_ldR (n42.ne rfl n28.at_) u37b Try.underlying32 rfl (by kernel_rfl)) (fun an43 n43 => ?_)
    refine sc n43.ok rfl (wn _ rfl) rfl (o_f2 Try.func34 rfl rfl rfl (n43.ne rfl n42.at_) n43.at_) (by have h := sput_c R xh25 ra rc w36 (hrdI12.gr F39) (hmnI12.gr F39) ((hm _ (List.mem_of_getElem? h25x)).gr G38) (layL ((K.map VerI.d).take i)) hRI12; rw [hp i _ (map_at h25x), ← layL_at (map_at h25x)] at h; exact h) ?_
    rintro _ w45 ⟨R2, ra2, rc2, rfl, hR2, hr2, hm2, hc2, g46⟩
    refine ⟨_, rfl, fun an44 n44 => ?_⟩
    have G47 := G38.trans g46
    have B48 := u37b.gr g46
    have F49 := Gr.trans F39 g46
    have A51 := Gr.refl w45
    refine sv n44.ok rfl (wn _ rfl) rfl (o_mv n44.at_) (fun an52 n52 => ?_)
    refine sv n52.ok rfl (wn _ rfl) rfl (o_ex n52.at_ rfl) (fun an53 n53 => ?_)
    refine sv n53.ok rfl (wn _ rfl) rfl (o_ex (n53.ne rfl n52.at_) rfl) (fun an54 n54 => ?_)
    refine sv n54.ok rfl (wn _ rfl) rfl (o_as (n54.ne rfl n53.at_)) (fun an55 n55 => ?_)
    refine sv n55.ok rfl (wn _ rfl) rfl (o_as (n55.ne rfl n54.at_)) (fun an56 n56 => ?_)
    refine wpList_nil ?_
    refine th_n (hK40 _ _ ?_)
    refine wp_seq_k (fun K57 hK57 => ?_)
    refine wp_seq_k (fun K58 hK58 => ?_)
    refine wp_region_lit ?_
    refine sv n56.ok rfl (wn _ rfl) rfl (o_mv n56.at_) (fun an59 n59 => ?_)
    refine sv n59.ok rfl (wn _ rfl) rfl (o_neq (b := false) n59.at_ ev_const (by decide)) (fun an60 n60 => ?_)
    refine wpList_nil ?_
    refine th_n (hK58 _ _ ?_)
    refine wp_cond_false (n60.at_) ?_
    refine wp_skip ?_
    refine th_n (hK57 _ _ ?_)
    refine wp_region_lit ?_
    have e61 := n60.ne rfl (n59.ne rfl (n56.ne rfl n55.at_))
    refine sv n60.ok rfl (wn _ rfl) rfl (o_mv e61) (fun an62 n62 => ?_)
    refine sv n62.ok rfl (wn _ rfl) rfl (o_as n62.at_) (fun an63 n63 => ?_)
    refine wpList_nil ?_
    refine ib_n ?_
    refine th_n (hK23 _ _ ?_)
    refine wp_region_lit ?_
    have e64 := n63.ne rfl (n62.ne rfl (n60.ne rfl (n59.ne rfl (n56.ne rfl (n55.ne rfl (n54.ne rfl (n53.ne rfl (n52.ne rfl (n44.ne rfl (n43.ne rfl (n42.ne rfl (n28.ne rfl (n27.ne rfl (n26.ne rfl (n20.ne rfl s11I12)))))))))))))))
    refine sv n63.ok rfl (wn _ rfl) rfl (o_add (r := ((i + 1 : Nat) : Int)) e64 ev_const (by omega) (by omega)) (fun an65 n65 => ?_)
    refine sv n65.ok rfl (wn _ rfl) rfl (o_mv n65.at_) (fun an66 n66 => ?_)
    refine wpList_nil ?_
    have e67 := n66.ne rfl (n65.ne rfl (n63.ne rfl (n62.ne rfl (n60.ne rfl (n59.ne rfl (n56.ne rfl (n55.ne rfl (n54.ne rfl (n53.ne rfl (n52.ne rfl (n44.ne rfl (n43.ne rfl (n42.ne rfl (n28.ne rfl (n27.ne rfl (n26.ne rfl (n20.ne rfl s2I12)))))))))))))))))
    have e68 := n66.ne rfl (n65.ne rfl (n63.ne rfl (n62.ne rfl (n60.ne rfl (n59.ne rfl (n56.ne rfl (n55.ne rfl (n54.ne rfl (n53.ne rfl (n52.ne rfl (n44.ne rfl (n43.ne rfl (n42.ne rfl (n28.ne rfl (n27.ne rfl (n26.ne rfl (n20.ne rfl s3I12)))))))))))))))))
    have e69 := n66.ne rfl (n65.ne rfl (n63.ne rfl (n62.ne rfl (n60.ne rfl (n59.ne rfl (n56.ne rfl (n55.ne rfl (n54.ne rfl (n53.ne rfl (n52.ne rfl (n44.ne rfl (n43.ne rfl (n42.ne rfl (n28.ne rfl (n27.ne rfl (n26.ne rfl (n20.ne rfl s9I12)))))))))))))))))
    have e70 := n66.ne rfl (n65.ne rfl (n63.ne rfl (n62.ne rfl (n60.ne rfl (n59.ne rfl (n56.ne rfl (n55.ne rfl (n54.ne rfl (n53.ne rfl (n52.ne rfl (n44.ne rfl (n43.ne rfl (n42.ne rfl (n28.ne rfl (n27.ne rfl (n26.ne rfl (n20.ne rfl s10I12)))))))))))))))))
    exact th_n (hKI12 _ _ _ (by omega) ⟨i + 1, R2, ra2, rc2, w45, rfl, n66.ok, G47, e67, e68, (n66.ne rfl (n65.ne rfl n63.at_)), e69, e70, n66.at_, A51, by omega, hR2, hr2, hm2, hc2⟩)
  · refine wp_cond_false ((n20.at_).trans (congrArg Value.bool (decide_eq_false c22))) ?_
    refine wp_exit ?_
    refine th_x ?_
    refine th_x ?_
    refine ib_x ?_
    refine th_n (hK6 _ _ ?_)
    refine wp_seq_k (fun K71 hK71 => ?_)
    refine wp_region_lit ?_
    refine sv n20.ok rfl (wn _ rfl) rfl (o_mv (n20.ne rfl s4I12)) (fun an72 n72 => ?_)
    refine sv n72.ok rfl (wn _ rfl) rfl (o_as n72.at_) (fun an73 n73 => ?_)
    refine sv n73.ok rfl (wn _ rfl) rfl (o_as ev_const) (fun an74 n74 => ?_)
    refine wpList_nil ?_
    refine th_n (hK71 _ _ ?_)
    refine wp_ret ?_
    exact ret2 n74.ok rfl ((n74.ne rfl n73.at_)) (n74.at_) ⟨R, ra, rc, rfl, by have h := hRI12; rw [List.take_of_length_le (by rw [List.length_map]; omega)] at h; exact h, hrdI12.gr fanI12, hmnI12.gr fanI12, hcpI12, GI12⟩
/-- laid, over versions as sites make them -/
theorem laid_r (K : List VerI) (va : Option Addr) (vc : Nat) (w : World) (hv : RdA encVr 8 w va K) (hm : MeansV w K) (hl : K.length ≤ 1000) (T Y : List VerD) (hT : TR T) (hY : ∀ x ∈ Y, x ∈ T) (hK : K.map VerI.d = Y) :
    Calls Try.prog 25 #[.slice va K.length vc] w fun e w' => ∃ (R : List VerI) (a : Option Addr) (c : Nat), e = .returned (.tuple #[.slice a R.length c, .bool true]) ∧ R.map VerI.d = layL Y ∧ RdA encVr 8 w' a R ∧ MeansV w' R ∧ (R.length ≤ c ∧ (a = none → c = 0)) ∧ Gr w w' := by
  subst hK
  exact laid_any K va vc hl (fun i x hx => lay_ok hT hY hx) w hv hm
end Go.Proofs.Ytoencnbpjjkjnaa

/- An argument that is a slice of structs of two integers reads as a list. -/
namespace Go.Proofs.Ytoencnbpjjkjnaa
open Go.ChangeShapes Go.WideShapes Go.ChangeAt Go.RowKit Go.Deep Rm

theorem add_none {b off k : Nat} : (⟨b, off, none⟩ : Addr).add k = ⟨b, off + k, none⟩ := by
  unfold Addr.add
  by_cases h : k = 0 <;> simp [h]

end Go.Proofs.Ytoencnbpjjkjnaa

/- An argument that is a set of dots, or a dot, reads as plain data. -/
set_option linter.unusedVariables false
namespace Go.Proofs.Ytoencnbpjjkjnaa
open Go.ChangeShapes Go.WideShapes Go.ChangeAt Go.RowKit Go.Deep Rm

section
variable {H : Type} {enc : TypeId × Value → H} {W : World} {base : Nat} {spare : Nat → Bool} {held : Bool}
theorem kint_cells : Try.prog.cellsOf 3 = 1 := by kernel_rfl
theorem kints_cells : Try.prog.cellsOf 27 = 1 := by kernel_rfl
set_option maxRecDepth 100000 in
theorem kints_trod {fuel : Nat} {cs : List Value} {x : DataW H × List MemPlace} (h : DataW.trod enc Try.prog W base spare held fuel 27 cs = some x) : ∃ v l, cs = [v] ∧ R1 W v l := by
  rcases open_slice1 Try.underlying27 kint_cells h with ⟨rfl, _⟩ | ⟨a, len, cap, m, n, V, D, Pl, rfl, hb, hl, hm, hmm, hx, hcell⟩
  · exact ⟨_, [], rfl, R1.nil W⟩
  · have hlm : len ≤ m := by rw [hmm]; split <;> omega
    obtain ⟨q, hq⟩ := choose_lt (α := Int) (n := len) (p := fun i p => W.cell? (a.add i) = some (.int .i64 p)) (fun i hi => by
        obtain ⟨h1, h2⟩ := hcell i (by omega)
        obtain ⟨x, ex, _, _⟩ := DataW.trod_int Try.underlying3 h2
        simp at ex
        exact ⟨x, by rw [h1, ex]⟩)
    refine ⟨_, (List.range len).map q, rfl, ⟨some a, cap, by simp, by simpa using hl, fun hne => ?_⟩⟩
    have h0 : 0 < len := by
      rcases Nat.eq_zero_or_pos len with h | h
      · subst h; simp at hne
      · exact h
    obtain ⟨b, off, spot⟩ := a
    have hc0 := hq 0 h0
    have hspot : spot = none := by simpa [Addr.add] using World.cell?_spot hc0
    subst hspot
    have hlt : b < W.heap.size := by
      have := block_lt_of_cell hc0
      simpa [Addr.add] using this
    refine ⟨b, off, rfl, hlt, fun i p hp => ?_⟩
    have hil : i < len := by
      have := (List.getElem?_eq_some_iff.1 hp).1
      simpa using this
    have hp' : p = q i := by
      simp [List.getElem?_map, List.getElem?_range hil] at hp
      exact hp.symm
    subst hp'
    have q1 := hq i hil
    rw [add_none] at q1
    exact q1
end
end Go.Proofs.Ytoencnbpjjkjnaa

/- Sets of small dots: joined, met, compared. -/
set_option linter.unusedVariables false
set_option linter.unusedSimpArgs false
namespace Rm
open Go Go.RowKit Gx
def Sm (D : DS) : Prop := ∀ s c, D s c = true → s < 5 ∧ 1 ≤ c ∧ c ≤ 12
theorem Sm.or {D E : DS} (h : Sm D) (h' : Sm E) : Sm (orD D E) := fun s c q => by
  simp only [orD, Bool.or_eq_true] at q
  exact q.elim (h s c) (h' s c)
theorem Sm.and {D E : DS} (h : Sm D) : Sm (andD D E) := fun s c q => by
  simp only [andD, Bool.and_eq_true] at q
  exact h s c q.1
theorem Sm.set (L : List (List Int)) : Sm (setD L) := setD_small L
end Rm
namespace Go.Proofs.Ytoencnbpjjkjnaa
open Go.ChangeShapes Go.WideShapes Go.ChangeAt Go.RowKit Go.Deep Rm Gx
/-- a value that is a set of dots -/
def KnD (w : World) (k : Value) (D : DS) : Prop := KnR w k (ints (formV D)) (pairs (formM D))
theorem KnD.gr {w w' : World} {k : Value} {D : DS} (h : KnD w k D) (g : Gr w w') : KnD w' k D := KnR.gr h g
theorem KnD.form {w : World} {k : Value} {D : DS} (h : KnD w k D) : ∃ va vc ma mc, k = .agg #[.slice va (ints (formV D)).length vc, .slice ma (pairs (formM D)).length mc] := by
  obtain ⟨va, vc, ma, mc, h, -, -⟩ := knr_form h
  exact ⟨va, vc, ma, mc, h⟩
section
variable {H : Type} {enc : TypeId × Value → H} {W : World} {base : Nat} {spare : Nat → Bool} {held : Bool}
theorem RdI1.of {w : World} {v : Value} {V : List Int} (h : R1 w v V) : ∃ a c, v = .slice a V.length c ∧ V.length ≤ c ∧ RdI1 w a V := by
  obtain ⟨a, c, e, hc, h⟩ := h
  refine ⟨a, c, e, hc, fun hn => ?_⟩
  obtain ⟨b, off, e, hb, hx⟩ := h hn
  exact ⟨b, off, e, hb, fun i x h => by rw [Nat.mul_one]; exact hx i x h⟩
set_option maxRecDepth 100000 in
theorem rows_trod {fuel : Nat} {cs : List Value} {x : DataW H × List MemPlace} (h : DataW.trod enc Try.prog W base spare held fuel 45 cs = some x) : ∃ v L, cs = [v] ∧ RdLL W v L := by
  rcases open_slice Try.underlying45 h with ⟨rfl, _⟩ | ⟨a, len, cap, m, n, D, Pl, rfl, hb, hl, hm, hmm, hx, hcell⟩
  · exact ⟨_, [], rfl, none, 0, rfl, Nat.le_refl _, fun hn => absurd rfl hn⟩
  · have hlm : len ≤ m := by rw [hmm]; split <;> omega
    obtain ⟨q, hq⟩ := choose_lt (α := List Int) (n := len) (p := fun i p => ∃ ua uc, W.cell? (a.add i) = some (.slice ua p.length uc) ∧ RdI1 W ua p) (fun i hi => by
        obtain ⟨cs', h1, h2⟩ := hcell i (by omega)
        rw [kints_cells] at h1
        obtain ⟨uv, p, rfl, hs⟩ := kints_trod h2
        obtain ⟨ua, uc, rfl, -, hr⟩ := RdI1.of hs
        obtain ⟨_, _, hc⟩ := World.cells?_some h1
        have e0 := hc 0 (by omega)
        rw [add_add] at e0
        exact ⟨p, ua, uc, by simpa using e0, hr⟩)
    refine ⟨_, (List.range len).map q, rfl, some a, cap, by simp, by simpa using hl, fun hne => ?_⟩
    have h0 : 0 < len := by
      rcases Nat.eq_zero_or_pos len with h | h
      · subst h; simp at hne
      · exact h
    obtain ⟨b, off, spot⟩ := a
    obtain ⟨_, _, hc0, _⟩ := hq 0 h0
    have hspot : spot = none := by simpa [Addr.add] using World.cell?_spot hc0
    subst hspot
    have hlt : b < W.heap.size := by
      have := block_lt_of_cell hc0
      simpa [Addr.add] using this
    refine ⟨b, off, rfl, hlt, fun i p hp => ?_⟩
    have hil : i < len := by
      have := (List.getElem?_eq_some_iff.1 hp).1
      simpa using this
    have hp' : p = q i := by
      simp [List.getElem?_map, List.getElem?_range hil] at hp
      exact hp.symm
    subst hp'
    obtain ⟨ua, uc, q1, q2⟩ := hq i hil
    rw [add_none] at q1
    exact ⟨ua, uc, by rw [Nat.mul_one]; exact q1, q2⟩
set_option maxRecDepth 100000 in
theorem open_rows {r : Reach} {b0 : Nat} {v : Value} {d : DataW H} {p : List MemPlace}
    (hv : Value.okWide Try.prog W r b0 45 v) (h : DataW.Trod enc Try.prog W base spare held 45 v d p) : ∃ L, RdLL W v L := by
  obtain ⟨a0, len0, cap0, rfl⟩ := okWide_slice Try.underlying45 hv
  obtain ⟨fuel, hf⟩ := h
  obtain ⟨v, l, e, hl⟩ := rows_trod hf
  simp [Value.cells] at e
  subst e
  exact ⟨l, hl⟩
end
end Go.Proofs.Ytoencnbpjjkjnaa

/- A region that draws its order: a chain of calls, then two parts of its answer are taken, a block is made whenever it likes, and the first part is stored in it. -/
set_option linter.unusedVariables false
set_option linter.unusedSimpArgs false
namespace Gx
open Go Go.RowKit Rm
section
variable {P : Program} {ops : Array Oper} {Q : Exit → Act → World → Prop} {N : Nat} {a₀ : Act} {w₀ : World} {hs : List Nat}
end
structure SF (N : Nat) (ap : Act) (wp w₀ : World) (df d0 d1 : Nat) (v0 v1 : Value) (z : Array Value) (ty : TypeId) (b0 b1 bf : Bool) (a : Act) (w : World) : Prop where
  ok : Ok N a
  old : ∀ t, Nat.beq t d0 = false → Nat.beq t d1 = false → Nat.beq t df = false → a.eval (.tmp t) = ap.eval (.tmp t)
  e0 : b0 = true → a.eval (.tmp d0) = v0
  e1 : b1 = true → a.eval (.tmp d1) = v1
  wn : bf = false → w = wp
  wf : bf = true → Gr wp w ∧ ∃ b, a.eval (.tmp df) = .pointer (some ⟨b, 0, none⟩) ∧ w₀.heap.size ≤ b ∧ Bk w b z ty
section
variable {N : Nat} {ap : Act} {wp w₀ : World} {df d0 d1 : Nat} {v0 v1 : Value} {z : Array Value} {ty : TypeId} {b0 b1 bf : Bool} {a : Act} {w : World}
theorem SF.p0 (h : SF N ap wp w₀ df d0 d1 v0 v1 z ty b0 b1 bf a w) (hN : Nat.blt d0 N = true) (h01 : Nat.beq d1 d0 = false) (h0f : Nat.beq df d0 = false) : SF N ap wp w₀ df d0 d1 v0 v1 z ty true b1 bf (a.put (some d0) v0) w := by
  have nx := Nx.put h.ok hN v0
  exact ⟨nx.ok, fun t q0 q1 qf => (nx.oth t q0).trans (h.old t q0 q1 qf), fun _ => nx.at_, fun q => (nx.oth _ h01).trans (h.e1 q), h.wn, fun q => by
    obtain ⟨g, b, h1, h2, h3⟩ := h.wf q
    exact ⟨g, b, (nx.oth _ h0f).trans h1, h2, h3⟩⟩
theorem SF.p1 (h : SF N ap wp w₀ df d0 d1 v0 v1 z ty b0 b1 bf a w) (hN : Nat.blt d1 N = true) (h01 : Nat.beq d0 d1 = false) (h0f : Nat.beq df d1 = false) : SF N ap wp w₀ df d0 d1 v0 v1 z ty b0 true bf (a.put (some d1) v1) w := by
  have nx := Nx.put h.ok hN v1
  exact ⟨nx.ok, fun t q0 q1 qf => (nx.oth t q1).trans (h.old t q0 q1 qf), fun q => (nx.oth _ h01).trans (h.e0 q), fun _ => nx.at_, h.wn, fun q => by
    obtain ⟨g, b, h1, h2, h3⟩ := h.wf q
    exact ⟨g, b, (nx.oth _ h0f).trans h1, h2, h3⟩⟩
end
section
variable {P : Program} {ops : Array Oper} {Q : Exit → Act → World → Prop} {N : Nat}
end
end Gx

/- Vectors: [5]int, the set that a vector is. -/
set_option linter.unusedVariables false
set_option linter.unusedSimpArgs false
namespace Rm
open Go Go.RowKit Gx
def vec (v : List Nat) : List Nat := trimL (five v)
end Rm
namespace Go.Proofs.Ytoencnbpjjkjnaa
open Go.RowKit Rm Gx
theorem five_zero : (Try.prog.info? 97).bind (·.zero) = some (.agg (cArr [])) := by kernel_rfl
theorem five_get {v : List Nat} {i : Nat} (h : i < 5) : (cArr v)[0 + i * 1]? = some (.int .i64 ((cv v i : Nat) : Int)) := by
  rw [Nat.zero_add, Nat.mul_one]; exact cArr_at v i h
theorem ow_updT {w w' : World} {base s n b : Nat} {t t' : TypeId} {v : Value} {xs : List Value} {cs : Array Value} (h : w.ownsRow base t s v n xs) (u : Upd w w' b) (hb : Bk w b cs t') (ht : Nat.beq t t' = false) : w'.ownsRow base t s v n xs := by
  obtain ⟨h1, h2 | ⟨g, cap, cur, rfl, h3, hg, h4⟩⟩ := h
  · exact ⟨h1, .inl h2⟩
  · refine ⟨h1, .inr ⟨g, cap, cur, rfl, h3, (u.oth g (fun e => ?_)).trans hg, h4⟩⟩
    subst e
    unfold Bk at hb
    rw [hb] at hg
    injection hg with hg
    injection hg with _ h5
    exact Nat.ne_of_beq_eq_false ht h5.symm
theorem KnO.v3 {base : Nat} {w : World} {k : Value} {v : List Nat} (h : KnO base w k v []) : ∃ va vc ma mc, k = .agg #[.slice va v.length vc, .slice ma 0 mc] := by
  obtain ⟨va, vc, ma, mc, e⟩ := h.form
  rw [ints_len] at e
  exact ⟨va, vc, ma, mc, e⟩
end Go.Proofs.Ytoencnbpjjkjnaa

/- Versions as told: each over some that came ahead, and over what those are over. -/
set_option linter.unusedVariables false
set_option linter.unusedSimpArgs false
namespace Rm
open Go Go.RowKit Gx
def dsV (x : VerD) : DS := memB (x.V.map Int.toNat) (x.M.map fun d => (d.1.toNat, d.2.toNat))
theorem ovB_ds (a b : VerD) : ovB a b = (decide (b.id = a.id) && dsV a b.s.toNat b.c.toNat) := rfl
theorem ovB_iff (a b : VerD) : ovB a b = true ↔ b.id = a.id ∧ dsV a b.s.toNat b.c.toNat = true := by rw [ovB_ds, Bool.and_eq_true, decide_eq_true_eq]
theorem dsX_orV (X Y : Nat → Nat) (s c : Nat) : dsX (fun q => X q ||| Y q) s c = (dsX X s c || dsX Y s c) := by
  unfold dsX; rw [Nat.testBit_or]
/-- what is told so far; v: how many each site made -/
structure ToldV (v : List Nat) (T : List VerD) : Prop where
  one : ∀ x ∈ T, chkOne x = 0
  cnt : ∀ x ∈ T, ∃ s c : Nat, x.s = s ∧ x.c = c ∧ s < 5 ∧ 1 ≤ c ∧ c ≤ cv v s
  dis : ∀ x ∈ T, ∀ y ∈ T, x.s = y.s → x.c = y.c → x = y
  from_ : ∀ x ∈ T, ∀ s c, dsV x s c = true → ∃ y ∈ T, y.id = x.id ∧ y.s = (s : Int) ∧ y.c = (c : Int)
  closed : ∀ x ∈ T, ∀ y ∈ T, ovB x y = true → ∀ s c, dsV y s c = true → dsV x s c = true
theorem ToldV.nil : ToldV [] [] := ⟨fun x h => (by cases h), fun x h => (by cases h), fun x h => (by cases h), fun x h => (by cases h), fun x h => (by cases h)⟩
theorem ToldV.tr {v : List Nat} {T : List VerD} (h : ToldV v T) (hl : T.length ≤ 60) : TR T where
  one := h.one
  key := fun x hx y hy k => h.dis x hx y hy k.2.1 k.2.2
  trans := fun a ha b hb c hc h1 h2 => by
    rw [ovB_iff] at h2 ⊢
    have h1' := (ovB_iff a b).1 h1
    exact ⟨h2.1.trans h1'.1, h.closed a ha b hb h1 _ _ h2.2⟩
  len := hl
/-- what is past for the next version of this name -/
structure PastOf (T : List VerD) (id : List UInt8) (X : Nat → Nat) : Prop where
  ok : OkX X
  from_ : ∀ s c, s < 5 → c < 1024 → dsX X s c = true → ∃ y ∈ T, y.id = id ∧ y.s = (s : Int) ∧ y.c = (c : Int)
  closed : ∀ y ∈ T, y.id = id → dsX X y.s.toNat y.c.toNat = true → ∀ s c, s < 5 → c < 1024 → dsV y s c = true → dsX X s c = true
theorem PastOf.zero (T : List VerD) (id : List UInt8) : PastOf T id (fun _ => 0) := ⟨OkX.zero, fun s c _ _ h => (by rw [dsX_zero] at h; cases h), fun y _ _ h => (by rw [dsX_zero] at h; cases h)⟩
theorem PastOf.step {v : List Nat} {T : List VerD} {id : List UInt8} {X Y : Nat → Nat} {x : VerD} (hT : ToldV v T) (hv : ∀ s, s < 5 → cv v s ≤ 1000) (hx : x ∈ T) (hid : x.id = id) (h : PastOf T id X) (hY : OkX Y) (hD : ∀ s q, s < 5 → q < 1024 → dsX Y s q = dsV x s q) :
    PastOf T id (withX (fun q => X q ||| Y q) x.s.toNat x.c.toNat) := by
  obtain ⟨sx, cx, e1, e2, k1, k2, k3⟩ := hT.cnt x hx
  have hb : x.c.toNat < 1024 := by have := hv sx k1; rw [e2]; simp; omega
  have key : ∀ s c, s < 5 → c < 1024 → dsX (withX (fun q => X q ||| Y q) x.s.toNat x.c.toNat) s c = (dsX X s c || dsV x s c || decide (s = x.s.toNat ∧ c = x.c.toNat)) := fun s c hs hc => by
    rw [dsX_with _ _ _ s c hb hc, dsX_orV, hD s c hs hc]
  refine ⟨OkX.with (fun q => Nat.or_lt_two_pow (h.ok q) (hY q)) _ _, fun s c hs hc q => ?_, fun y hy hyid q s c hs hc hq => ?_⟩
  · rw [key s c hs hc, Bool.or_eq_true, Bool.or_eq_true, decide_eq_true_eq] at q
    rcases q with (q | q) | ⟨rfl, rfl⟩
    · exact h.from_ s c hs hc q
    · obtain ⟨y, hy, h1, h2, h3⟩ := hT.from_ x hx s c q
      exact ⟨y, hy, h1.trans hid, h2, h3⟩
    · exact ⟨x, hx, hid, by rw [e1]; simp, by rw [e2]; simp⟩
  · obtain ⟨sy, cy, f1, f2, l1, l2, l3⟩ := hT.cnt y hy
    have hys : y.s.toNat < 5 := by rw [f1]; simpa using l1
    have hyc : y.c.toNat < 1024 := by have := hv sy l1; rw [f2]; simp; omega
    rw [key _ _ hys hyc, Bool.or_eq_true, Bool.or_eq_true, decide_eq_true_eq] at q
    rw [key s c hs hc, Bool.or_eq_true, Bool.or_eq_true]
    rcases q with (q | q) | ⟨q1, q2⟩
    · exact .inl (.inl (h.closed y hy hyid q s c hs hc hq))
    · exact .inl (.inr (hT.closed x hx y hy ((ovB_iff x y).2 ⟨hyid.trans hid.symm, q⟩) s c hq))
    · have : y = x := hT.dis y hy x hx (by rw [f1, e1] at q1 ⊢; simp at q1; omega) (by rw [f2, e2] at q2 ⊢; simp at q2; omega)
      subst this
      exact .inl (.inr hq)
def idOf (n : Nat) : List UInt8 := if n = 0 then [97] else [98]
theorem idOf_ok (n : Nat) : idB (idOf n) = true := by unfold idOf; split <;> decide
theorem form_sum {D : DS} {v : List Nat} (h : ∀ s c, s < 5 → c ≤ 1000 → D s c = true → 1 ≤ c ∧ c ≤ cv v s) (hv : cv v 0 + cv v 1 + cv v 2 + cv v 3 + cv v 4 ≤ 60) : (formM D).length ≤ 60 := by
  have key : ∀ s, s < 5 → (restD D s).length ≤ cv v s := by
    intro s hs
    unfold restD
    rw [List.length_map]
    have h1 : ((List.range 1001).filter fun c => decide (run D s + 2 ≤ c) && D s c).length ≤ ((List.range 1001).filter fun c => decide (1 ≤ c ∧ c ≤ cv v s)).length := by
      rw [← List.countP_eq_length_filter, ← List.countP_eq_length_filter]
      apply List.countP_mono_left
      intro c hc hq
      simp only [Bool.and_eq_true, decide_eq_true_eq] at hq ⊢
      have hc' := List.mem_range.1 hc
      exact h s c hs (by omega) hq.2
    refine Nat.le_trans h1 ?_
    have h2 : ∀ n m : Nat, ((List.range n).filter fun c => decide (1 ≤ c ∧ c ≤ m)).length ≤ m := by
      intro n m
      have h3 : ((List.range n).filter fun c => decide (1 ≤ c ∧ c ≤ m)).length ≤ min (n - 1) m := by
        induction n with
        | zero => simp
        | succ n ih =>
          rw [List.range_succ, List.filter_append, List.length_append]
          by_cases q : 1 ≤ n ∧ n ≤ m
          · rw [show ([n].filter fun c => decide (1 ≤ c ∧ c ≤ m)) = [n] by simp [q]]
            simp only [List.length_singleton]
            omega
          · rw [show ([n].filter fun c => decide (1 ≤ c ∧ c ≤ m)) = [] by simp [q]]
            simp only [List.length_nil]
            omega
      omega
    exact h2 _ _
  have k0 := key 0 (by omega); have k1 := key 1 (by omega); have k2 := key 2 (by omega); have k3 := key 3 (by omega); have k4 := key 4 (by omega)
  show ((List.range 5).flatMap (restD D)).length ≤ 60
  have e : (List.range 5).flatMap (restD D) = restD D 0 ++ restD D 1 ++ restD D 2 ++ restD D 3 ++ restD D 4 := by
    rw [show List.range 5 = [0, 1, 2, 3, 4] from rfl]
    simp [List.flatMap_cons, List.append_assoc]
  rw [e]
  simp only [List.length_append]
  omega
theorem ints_nat (v : List Nat) : (ints v).map Int.toNat = v := by
  unfold ints
  rw [List.map_map]
  conv => rhs; rw [← List.map_id v]
  exact List.map_congr_left fun x _ => by simp
theorem pairs_nat (m : List (Nat × Nat)) : ((pairs m).map fun d => (d.1.toNat, d.2.toNat)) = m := by
  unfold pairs
  rw [List.map_map]
  conv => rhs; rw [← List.map_id m]
  exact List.map_congr_left fun x _ => by simp
def newV (id : List UInt8) (s c t n b : Nat) (D : DS) : VerD := ⟨id, s, c, t, n, b, ints (formV D), pairs (formM D)⟩
theorem newV_ds (id : List UInt8) (s c t n b : Nat) (D : DS) (a q : Nat) : dsV (newV id s c t n b D) a q = memB (formV D) (formM D) a q := by
  unfold dsV newV
  simp only [ints_nat, pairs_nat]
theorem PastOf.few {v : List Nat} {T : List VerD} {id : List UInt8} {X : Nat → Nat} (hT : ToldV v T) (h : PastOf T id X) (hv : cv v 0 + cv v 1 + cv v 2 + cv v 3 + cv v 4 ≤ 60) : (formM (dsX X)).length ≤ 60 :=
  form_sum (v := v) (fun s c hs hc q => by
    obtain ⟨y, hy, -, e1, e2⟩ := h.from_ s c hs (by omega) q
    obtain ⟨sy, cy, f1, f2, l1, l2, l3⟩ := hT.cnt y hy
    obtain rfl : sy = s := by omega
    obtain rfl : cy = c := by omega
    exact ⟨l2, l3⟩) hv
theorem ToldV.snoc {v : List Nat} {T : List VerD} {X : Nat → Nat} {id : List UInt8} {s t n b : Nat} (hT : ToldV v T) (hv : ∀ s, s < 5 → cv v s ≤ 900) (hs : s < 5) (hid : idB id = true) (ht : t < 16) (hn : n < 32) (hb : b ≤ 1000000) (hP : PastOf T id X) (hm : (formM (dsX X)).length ≤ 60) :
    ToldV (setC v s (cv v s + 1)) (T ++ [newV id s (cv v s + 1) t n b (dsX X)]) := by
  obtain ⟨z, hz⟩ : ∃ z, z = newV id s (cv v s + 1) t n b (dsX X) := ⟨_, rfl⟩
  have hvs := hv s hs
  have zs : z.s = (s : Int) := by rw [hz]; rfl
  have zc : z.c = ((cv v s + 1 : Nat) : Int) := by rw [hz]; rfl
  have zi : z.id = id := by rw [hz]; rfl
  have zd : ∀ a q, dsV z a q = memB (formV (dsX X)) (formM (dsX X)) a q := fun a q => by rw [hz]; exact newV_ds ..
  have zX : ∀ a q, dsV z a q = true → a < 5 ∧ q < 1024 ∧ dsX X a q = true := fun a q h => by
    rw [zd] at h
    have hi := (form_ok (dsX X)).inR h
    rw [form_mem (dsX X) a q hi] at h
    exact ⟨hi.1, by have := hi.2.2; omega, h⟩
  have hcnt : ∀ y ∈ T, ∃ a c : Nat, y.s = a ∧ y.c = c ∧ a < 5 ∧ 1 ≤ c ∧ c ≤ cv v a := hT.cnt
  have fresh : ∀ y ∈ T, y.s = z.s → y.c = z.c → False := fun y hy e1 e2 => by
    obtain ⟨a, c, f1, f2, l1, l2, l3⟩ := hcnt y hy
    rw [zs, f1] at e1
    rw [zc, f2] at e2
    obtain rfl : a = s := by omega
    omega
  have hone : chkOne z = 0 := by
    unfold chkOne
    have h1 : idB z.id = true := by rw [zi]; exact hid
    have h2 : argB z = true := by
      rw [hz]
      unfold argB newV
      have d1 : dotB ((s : Int), ((cv v s + 1 : Nat) : Int)) = true := by
        rw [dotB_iff]; simp only; omega
      have d2 : ptB (t : Int) (n : Int) = true := by rw [ptB_iff]; omega
      simp only [d1, d2, Bool.true_and, Bool.and_eq_true, decide_eq_true_eq]
      omega
    have h3 : chkK z.V z.M = 0 := by
      have zV : z.V = ints (formV (dsX X)) := by rw [hz]; simp only [newV]
      have zM : z.M = pairs (formM (dsX X)) := by rw [hz]; simp only [newV]
      rw [zV, zM]
      exact (form_ok (dsX X)).chk hm
    have h4 : memI z.V z.M z.s z.c = false := by
      cases q : memI z.V z.M z.s z.c
      · rfl
      · exfalso
        have q' : dsV z z.s.toNat z.c.toNat = true := q
        obtain ⟨a1, a2, a3⟩ := zX _ _ q'
        obtain ⟨y, hy, -, e1, e2⟩ := hP.from_ _ _ a1 a2 a3
        exact fresh y hy (by rw [e1, zs]; simp) (by rw [e2, zc]; simp)
    rw [if_neg (by rw [h1]; simp), if_neg (by rw [h2]; simp), if_neg (by rw [h3]; simp), if_neg (by rw [h4]; simp)]
  rw [← hz]
  have ov_old : ∀ w ∈ T, ovB w z = false := fun w hw => by
    cases q : ovB w z
    · rfl
    · exfalso
      have q' := ((ovB_iff w z).1 q).2
      obtain ⟨y, hy, -, e1, e2⟩ := hT.from_ w hw _ _ q'
      exact fresh y hy (by rw [e1, zs]; simp) (by rw [e2, zc]; simp)
  refine ⟨fun x hx => ?_, fun x hx => ?_, fun x hx y hy e1 e2 => ?_, fun x hx a q h => ?_, fun x hx y hy h a q hq => ?_⟩
  · rcases List.mem_append.1 hx with hx | hx
    · exact hT.one x hx
    · rw [List.mem_singleton.1 hx]; exact hone
  · rcases List.mem_append.1 hx with hx | hx
    · obtain ⟨a, c, f1, f2, l1, l2, l3⟩ := hcnt x hx
      refine ⟨a, c, f1, f2, l1, l2, ?_⟩
      rw [cv_setC _ _ _ _ hs l1]
      split
      · rename_i e; subst e; omega
      · exact l3
    · rw [List.mem_singleton.1 hx]
      refine ⟨s, cv v s + 1, zs, zc, hs, by omega, ?_⟩
      rw [cv_setC _ _ _ _ hs hs, if_pos rfl]
      exact Nat.le_refl _
  · rcases List.mem_append.1 hx with hx | hx
    · rcases List.mem_append.1 hy with hy | hy
      · exact hT.dis x hx y hy e1 e2
      · rw [List.mem_singleton.1 hy] at e1 e2
        exact (fresh x hx e1 e2).elim
    · rcases List.mem_append.1 hy with hy | hy
      · rw [List.mem_singleton.1 hx] at e1 e2
        exact (fresh y hy e1.symm e2.symm).elim
      · rw [List.mem_singleton.1 hx, List.mem_singleton.1 hy]
  · rcases List.mem_append.1 hx with hx | hx
    · obtain ⟨y, hy, h1, h2, h3⟩ := hT.from_ x hx a q h
      exact ⟨y, List.mem_append.2 (.inl hy), h1, h2, h3⟩
    · rw [List.mem_singleton.1 hx] at h ⊢
      obtain ⟨a1, a2, a3⟩ := zX a q h
      obtain ⟨y, hy, h1, h2, h3⟩ := hP.from_ a q a1 a2 a3
      exact ⟨y, List.mem_append.2 (.inl hy), h1.trans zi.symm, h2, h3⟩
  · rcases List.mem_append.1 hx with hx | hx
    · rcases List.mem_append.1 hy with hy | hy
      · exact hT.closed x hx y hy h a q hq
      · rw [List.mem_singleton.1 hy, ov_old x hx] at h
        cases h
    · rw [List.mem_singleton.1 hx] at h ⊢
      rcases List.mem_append.1 hy with hy | hy
      · obtain ⟨h1, h2⟩ := (ovB_iff z y).1 h
        obtain ⟨a1, a2, a3⟩ := zX _ _ h2
        obtain ⟨b1, b2, -⟩ : a < 5 ∧ q < 1024 ∧ True := by
          obtain ⟨u, hu, -, e1, e2⟩ := hT.from_ y hy a q hq
          obtain ⟨su, cu, f1, f2, l1, l2, l3⟩ := hcnt u hu
          have := hv su l1
          obtain rfl : su = a := by omega
          obtain rfl : cu = q := by omega
          exact ⟨l1, by omega, trivial⟩
        have h3 := hP.closed y hy (h1.trans zi) a3 a q b1 b2 hq
        rw [zd]
        have hi : inR a q := by
          obtain ⟨u, hu, -, e1, e2⟩ := hT.from_ y hy a q hq
          obtain ⟨su, cu, f1, f2, l1, l2, l3⟩ := hcnt u hu
          have := hv su l1
          obtain rfl : su = a := by omega
          obtain rfl : cu = q := by omega
          exact ⟨l1, l2, by omega⟩
        rw [form_mem (dsX X) a q hi]
        exact h3
      · rw [List.mem_singleton.1 hy, ovB_self hone] at h
        cases h
end Rm

/- The words of a set of dots. -/
set_option linter.unusedVariables false
set_option linter.unusedSimpArgs false
namespace Rm
open Go Go.RowKit Gx
/-- a number of given bits -/
def bitsN (f : Nat → Bool) : Nat → Nat
  | 0 => 0
  | k + 1 => bitsN f k ||| (if f k then 2 ^ k else 0)
theorem bitsN_at (f : Nat → Bool) : ∀ n k, (bitsN f n).testBit k = (decide (k < n) && f k) := by
  intro n
  induction n with
  | zero => intro k; simp [bitsN]
  | succ n ih =>
    intro k
    unfold bitsN
    rw [Nat.testBit_or, ih]
    by_cases hk : k = n
    · subst hk
      cases h : f k <;> simp [h]
    · have h1 : decide (k < n + 1) = decide (k < n) := by rw [decide_eq_decide]; omega
      rw [h1]
      cases h : f n
      · simp
      · have h2 : (2 ^ n).testBit k = false := by rw [Nat.testBit_two_pow]; simp; omega
        simp [h2]
theorem bitsN_lt (f : Nat → Bool) (n : Nat) : bitsN f n < 2 ^ n := Nat.lt_pow_two_of_testBit _ fun i hi => by
  rw [bitsN_at]
  simp
  omega
/-- the words of a set of dots -/
def xOf (D : DS) : Nat → Nat := fun i => bitsN (fun k => D (i / 16) (64 * (i % 16) + k)) 64
theorem xOf_ok (D : DS) : OkX (xOf D) := fun i => bitsN_lt _ 64
theorem xOf_ds (D : DS) (s c : Nat) (hc : c < 1024) : dsX (xOf D) s c = D s c := by
  unfold dsX xOf
  rw [bitsN_at, show (s * 16 + c / 64) / 16 = s by omega, show 64 * ((s * 16 + c / 64) % 16) + c % 64 = c by omega, decide_eq_true (show c % 64 < 64 by omega)]
  rfl
theorem xOf_eq {X : Nat → Nat} {D : DS} (hX : OkX X) (h : ∀ s q, s < 5 → q < 1024 → dsX X s q = D s q) : wArr X = wArr (xOf D) := wArr_ext fun i hi => Nat.eq_of_testBit_eq fun k => by
  unfold xOf
  rw [bitsN_at]
  by_cases hk : k < 64
  · have h1 := h (i / 16) (64 * (i % 16) + k) (by omega) (by omega)
    unfold dsX at h1
    rw [show i / 16 * 16 + (64 * (i % 16) + k) / 64 = i by omega, show (64 * (i % 16) + k) % 64 = k by omega] at h1
    rw [h1, decide_eq_true hk]
    rfl
  · rw [decide_eq_false hk]
    exact Nat.testBit_lt_two_pow (Nat.lt_of_lt_of_le (hX i) (Nat.pow_le_pow_right (by omega) (by omega)))
end Rm

