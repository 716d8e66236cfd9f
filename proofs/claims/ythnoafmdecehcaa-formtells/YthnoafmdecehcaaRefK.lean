/- The document's own Says: the drawn regions of its closure, over any state of the frame. -/
import Derived.Test.YthnoafmdecehcaaRefJ
import Derived.Test.YthnoafmdecehcaaReg
namespace Go.Proofs.Ythnoafmdecehcaa
open Go.RowKit Rm
set_option linter.unusedVariables false
set_option linter.unusedSimpArgs false
section
variable (ev : Operand → Value) (d : Option Tmp) (ty : TypeId) (p : String) (af : Array Edge) (g : Option (Nat × Bool)) (w : World)
theorem rr_loadF (x : Operand) (B : Nat) (u : Value) (h : ev x = .pointer (some ⟨B, 0, none⟩)) (hc : w.cell? ⟨B, 0, none⟩ = some u) : (execOp ev (Oper.mk d (.load 87 x) ty p af g)).run Try.prog w = .ok (.value u) w := by
  go_simp
theorem rr_loadI (x : Operand) (B o : Nat) (n : Int) (h : ev x = .pointer (some ⟨B, o, none⟩)) (hc : w.cell? ⟨B, o, none⟩ = some (.int .i64 n)) : (execOp ev (Oper.mk d (.load 3 x) ty p af g)).run Try.prog w = .ok (.value (.int .i64 n)) w := by
  go_simp
theorem rr_field1 (x : Operand) (B : Nat) (h : ev x = .pointer (some ⟨B, 0, none⟩)) : (execOp ev (Oper.mk d (.fieldAddr 46 x 1) ty p af g)).run Try.prog w = .ok (.value (.pointer (some ⟨B, 1, none⟩))) w := by
  go_simp
theorem rr_field2 (x : Operand) (B : Nat) (h : ev x = .pointer (some ⟨B, 0, none⟩)) : (execOp ev (Oper.mk d (.fieldAddr 46 x 2) ty p af g)).run Try.prog w = .ok (.value (.pointer (some ⟨B, 2, none⟩))) w := by
  go_simp
theorem rr_clos (f : Nat) (x y : Operand) (u c1 c2 c3 : Value) (ts : Array TypeId) (h : ev x = .func (.func f) #[] #[c1, c2, c3]) (hy : ev y = u) (hcf : (callFunc f #[u, c1, c2, c3]).run Try.prog w = .ok (.enter f #[u, c1, c2, c3]) w) : (execOp ev (Oper.mk d (.call (Call.mk (.value x) #[y] ts)) ty p af g)).run Try.prog w = .ok (.enter f #[u, c1, c2, c3]) w := by
  go_simp
theorem rr_enter3 (f : Nat) (x y z : Operand) (v1 v2 v3 : Value) (ts : Array TypeId) (h1 : ev x = v1) (h2 : ev y = v2) (h3 : ev z = v3) (hf : ev (.func f) = .func (.func f) #[] #[]) (hcf : (callFunc f #[v1, v2, v3]).run Try.prog w = .ok (.enter f #[v1, v2, v3]) w) : (execOp ev (Oper.mk d (.call (Call.mk (.value (.func f)) #[x, y, z] ts)) ty p af g)).run Try.prog w = .ok (.enter f #[v1, v2, v3]) w := by
  go_simp
theorem rr_loadR (x : Operand) (B : Nat) (f : Nat → Bool) (h : ev x = .pointer (some ⟨B, 0, none⟩)) (hc : w.heap[B]? = some (.cells (pArr f) 33 (0, 0))) : (execOp ev (Oper.mk d (.load 33 x) ty p af g)).run Try.prog w = .ok (.value (.agg (pArr f))) w := by
  unfold execOp
  simp only [h, Instr.loadAt, Instr.sureAddr, Sem.run_bind, Sem.run_pure, Result.andThen_ok, run_loadVar_row w B 33 33 (pArr f) (0, 0) _ hc Try.underlying33 rfl (pinfo f)]
end
theorem rw_store {oi : Oper} {a : Act} {w : World} {K : Act → World → Prop} {Q : Exit → Act → World → Prop} (B : Nat) (old f : Nat → Bool) (x y : Operand) (ho : oi.op = .store 33 x y) (hd : oi.dst = none) (hx : a.eval x = .pointer (some ⟨B, 0, none⟩)) (hy : a.eval y = .agg (pArr f))
    (hg : w.heap[B]? = some (.cells (pArr old) 33 (0, 0))) (h : K a (w.setRow B (pArr f))) : Oper.wp Try.prog oi a w K Q := by
  have hz : (pArr old).size = (pArr f).size := by rw [pArr_size, pArr_size]
  refine wp_store_row 33 x y ho B (pArr f) hx hy 33 (pArr old) hg (pinfo f) hz (pArr_one f) ?_
  rw [hd]
  exact h
/-- what is held of the world: the closure's own variable, and the node -/
def HeldS (k1 k2 k3 NB : Nat) (kd na nb : Int) (z : World) : Prop := z.heap[k3]? = some (.cells #[saysF k1 k2 k3] 87 (0, 0)) ∧ z.heap[NB]? = some (.cells #[.int .i64 kd, .int .i64 na, .int .i64 nb] 46 (0, 0))
/-- what the closure may lean on at earlier nodes -/
def SaysBelow (l : List Nd) (v : Value) (w0 : World) (k1 k2 k3 r i : Nat) : Prop := ∀ m, m < i → ∀ w, SaysAt l v w0 w k1 k2 k3 r → Calls Try.prog 50 #[.int .i64 (m : Int), .pointer (some ⟨k1, 0, none⟩), .pointer (some ⟨k2, 0, none⟩), .pointer (some ⟨k3, 0, none⟩)] w (SaysPost l v w0 w k1 k2 k3 r m)
section
variable {ops : Array Oper} {Q : Exit → Act → World → Prop} {S : World → Prop} {l : List Nd} {v : Value} {w0 : World} {k1 k2 k3 r n : Nat}
theorem rw_says {oi : Oper} {a : Act} {w : World} {K : Act → World → Prop} {d m : Nat} {x y : Operand} {ts : Array TypeId} {ty : TypeId} {p : String} {af : Array Edge} (ho : oi = Oper.mk (some d) (.call (Call.mk (.value x) #[y] ts)) ty p af none)
    (hx : a.eval x = saysF k1 k2 k3) (hy : a.eval y = .int .i64 (m : Int)) (IH : SaysBelow l v w0 k1 k2 k3 r n) (hm : m < n) (SA : SaysAt l v w0 w k1 k2 k3 r)
    (h : ∀ w', SaysAt l v w0 w' k1 k2 k3 r → w.grownBy w' (some r) → K (a.put (some d) (.agg (pArr (pv l m)))) w') : Oper.wp Try.prog oi a w K Q := by
  subst ho
  have q := IH m hm w SA
  have hrun := rr_clos a.eval (some d) ty p af none w 50 x y (.int .i64 (m : Int)) (.pointer (some ⟨k1, 0, none⟩)) (.pointer (some ⟨k2, 0, none⟩)) (.pointer (some ⟨k3, 0, none⟩)) ts hx hy (rr_enter_of Try.func50 (by kernel_rfl) (by kernel_rfl) _ _)
  refine re_wcall (d := d) rfl hrun q ?_
  rintro e w' ⟨rfl, S1, g1⟩
  exact ⟨_, rfl, h w' S1 g1⟩
theorem re_says {i : Nat} {oi : Oper} {fuel : Nat} {listed : Array Bool} {a : Act} {w : World} {d m : Nat} {x y : Operand} {ts : Array TypeId} {ty : TypeId} {p : String} {af : Array Edge} (hr : Region.ready .any ops listed = [i]) (hi : ops[i]? = some oi) (ho : oi = Oper.mk (some d) (.call (Call.mk (.value x) #[y] ts)) ty p af none)
    (hx : a.eval x = saysF k1 k2 k3) (hy : a.eval y = .int .i64 (m : Int)) (IH : SaysBelow l v w0 k1 k2 k3 r n) (hm : m < n) (SA : SaysAt l v w0 w k1 k2 k3 r)
    (h : ∀ w', SaysAt l v w0 w' k1 k2 k3 r → w.grownBy w' (some r) → S w' ∧ wpAnyH Try.prog .any ops Q S fuel (listed.setIfInBounds i true) (a.put (some d) (.agg (pArr (pv l m)))) w') : wpAnyH Try.prog .any ops Q S (fuel + 1) listed a w :=
  re_one hr hi (re_none _ (by rw [ho])) fun K hK => rw_says ho hx hy IH hm SA fun w' s g => hK _ _ (h w' s g).1 (h w' s g).2
theorem rw_row {oi : Oper} {a : Act} {w : World} {K : Act → World → Prop} {d B : Nat} {f : Nat → Bool} {x : Operand} {ty : TypeId} {p : String} {af : Array Edge} (ho : oi = Oper.mk (some d) (.load 33 x) ty p af none) (hx : a.eval x = .pointer (some ⟨B, 0, none⟩))
    (hc : w.heap[B]? = some (.cells (pArr f) 33 (0, 0))) (h : K (a.put (some d) (.agg (pArr f))) w) : Oper.wp Try.prog oi a w K Q := by
  subst ho
  exact re_wval (d := d) rfl (rr_loadR a.eval (some d) ty p af none w x B f hx hc) h
theorem re_saysrow {i j : Nat} {oi oj : Oper} {fuel : Nat} {listed : Array Bool} {a : Act} {w : World} {d d2 m B : Nat} {f : Nat → Bool} {x y z : Operand} {ts : Array TypeId} {ty ty2 : TypeId} {p p2 : String} {af af2 : Array Edge} (hr : Region.ready .any ops listed = [i, j]) (hr1 : Region.ready .any ops (listed.setIfInBounds i true) = [j]) (hr2 : Region.ready .any ops (listed.setIfInBounds j true) = [i])
    (hl : (listed.setIfInBounds j true).setIfInBounds i true = (listed.setIfInBounds i true).setIfInBounds j true) (hi : ops[i]? = some oi) (hj : ops[j]? = some oj) (ho : oi = Oper.mk (some d) (.call (Call.mk (.value x) #[y] ts)) ty p af none) (ho2 : oj = Oper.mk (some d2) (.load 33 z) ty2 p2 af2 none) (hd : d2 ≠ d)
    (hx : a.eval x = saysF k1 k2 k3) (hy : a.eval y = .int .i64 (m : Int)) (hz : a.eval z = .pointer (some ⟨B, 0, none⟩)) (hzx : (a.put (some d) (.agg (pArr (pv l m)))).eval z = .pointer (some ⟨B, 0, none⟩)) (hxz : (a.put (some d2) (.agg (pArr f))).eval x = saysF k1 k2 k3) (hyz : (a.put (some d2) (.agg (pArr f))).eval y = .int .i64 (m : Int))
    (IH : SaysBelow l v w0 k1 k2 k3 r n) (hm : m < n) (SA : SaysAt l v w0 w k1 k2 k3 r) (hO : w.heap[B]? = some (.cells (pArr f) 33 (0, 0))) (hS : S w) (hSk : ∀ w', w.grownBy w' (some r) → S w')
    (h : ∀ w', SaysAt l v w0 w' k1 k2 k3 r → w.grownBy w' (some r) → wpAnyH Try.prog .any ops Q S fuel ((listed.setIfInBounds i true).setIfInBounds j true) ((a.put (some d) (.agg (pArr (pv l m)))).put (some d2) (.agg (pArr f))) w') : wpAnyH Try.prog .any ops Q S (fuel + 1 + 1) listed a w := by
  refine re_pair hr hi hj (re_none _ (by rw [ho])) (re_none _ (by rw [ho2])) (fun K hK => rw_says ho hx hy IH hm SA fun w' s g => hK _ _ (hSk w' g) ?_) (fun K hK => rw_row ho2 hz hO (hK _ _ hS ?_))
  · exact re_one hr1 hj (re_none _ (by rw [ho2])) fun K hK => rw_row ho2 hzx ((g.block _ (Blk_lt hO) (cells_ne_map hO SA.2.2.2.2.2.2)).trans hO) (hK _ _ (hSk w' g) (h w' s g))
  · refine re_one hr2 hi (re_none _ (by rw [ho])) fun K hK => rw_says ho hxz hyz IH hm SA fun w' s g => hK _ _ (hSk w' g) ?_
    rw [re_comm _ d2 d _ _ hd, hl]
    exact h w' s g
theorem re_each {i : Nat} {oi : Oper} {fuel : Nat} {listed : Array Bool} {a : Act} {w : World} {d fo : Nat} {x y : Operand} {ts : Array TypeId} {ty : TypeId} {p : String} {af : Array Edge} {f1 f2 q : Nat → Bool} {g : Bool → Bool → Bool} (hr : Region.ready .any ops listed = [i]) (hi : ops[i]? = some oi) (ho : oi = Oper.mk (some d) (.call (Call.mk (.value (.func 51)) #[x, y, .func fo] ts)) ty p af none)
    (hx : a.eval x = .agg (pArr f1)) (hy : a.eval y = .agg (pArr f2)) (hlaw : Calls Try.prog 51 #[.agg (pArr f1), .agg (pArr f2), .func (.func fo) #[] #[]] w fun e w' => ∃ p, e = .returned (.agg (pArr p)) ∧ (∀ i, i < 512 → p i = g (f1 i) (f2 i)) ∧ Gr w w') (hq : ∀ i, i < 512 → g (f1 i) (f2 i) = q i)
    (h : ∀ w', Gr w w' → S w' ∧ wpAnyH Try.prog .any ops Q S fuel (listed.setIfInBounds i true) (a.put (some d) (.agg (pArr q))) w') : wpAnyH Try.prog .any ops Q S (fuel + 1) listed a w := by
  refine re_one hr hi (re_none _ (by rw [ho])) fun K hK => ?_
  subst ho
  have hrun := rr_enter3 a.eval (some d) ty p af none w 51 x y (.func fo) (.agg (pArr f1)) (.agg (pArr f2)) (.func (.func fo) #[] #[]) ts hx hy rfl rfl (rr_enter_of Try.func51 (by kernel_rfl) (by kernel_rfl) _ _)
  refine re_wcall (d := d) rfl hrun hlaw ?_
  rintro e w' ⟨p, rfl, hp, gz⟩
  have ep : pArr p = pArr q := pArr_ext (fun j hj => by rw [hp j hj, hq j hj])
  rw [ep]
  exact ⟨_, rfl, hK _ _ (h w' gz).1 (h w' gz).2⟩
theorem re_rowset {i : Nat} {oi : Oper} {fuel : Nat} {listed : Array Bool} {a : Act} {w : World} {B : Nat} {old f : Nat → Bool} {x y : Operand} {ty : TypeId} {p : String} {af : Array Edge} (hr : Region.ready .any ops listed = [i]) (hi : ops[i]? = some oi) (ho : oi = Oper.mk none (.store 33 x y) ty p af none)
    (hx : a.eval x = .pointer (some ⟨B, 0, none⟩)) (hy : a.eval y = .agg (pArr f)) (hg : w.heap[B]? = some (.cells (pArr old) 33 (0, 0))) (hS : S (w.setRow B (pArr f)))
    (h : wpAnyH Try.prog .any ops Q S fuel (listed.setIfInBounds i true) a (w.setRow B (pArr f))) : wpAnyH Try.prog .any ops Q S (fuel + 1) listed a w := by
  refine re_one hr hi (re_none _ (by rw [ho])) fun K hK => ?_
  subst ho
  exact rw_store B old f x y rfl rfl hx hy hg (hK _ _ hS h)
end
def sy13_0 : Oper := Oper.mk (some 65) (Op.load 87 (Operand.tmp 3)) 87 "low.go:186" #[] none
def sy13_1 : Oper := Oper.mk (some 66) (Op.fieldAddr 46 (Operand.tmp 8) 1) 0 "low.go:186" #[] none
def sy13_2 : Oper := Oper.mk (some 67) (Op.load 3 (Operand.tmp 66)) 3 "low.go:186" #[Edge.mk 1 Ground.data] none
def sy13_3 : Oper := Oper.mk (some 68) (Op.call (Call.mk (Callee.value (Operand.tmp 65)) #[Operand.tmp 67] #[3])) 33 "low.go:186" #[Edge.mk 0 Ground.data, Edge.mk 2 Ground.data] none
def sy13_4 : Oper := Oper.mk (some 69) (Op.load 33 (Operand.tmp 9)) 33 "low.go:186" #[] none
def sy13_5 : Oper := Oper.mk (some 70) (Op.call (Call.mk (Callee.value (Operand.func 51)) #[Operand.tmp 68, Operand.tmp 69, Operand.func 52] #[33, 33, 90])) 33 "low.go:186" #[Edge.mk 3 Ground.data, Edge.mk 4 Ground.data, Edge.mk 3 Ground.chain] none
def sy13_6 : Oper := Oper.mk none (Op.store 33 (Operand.tmp 9) (Operand.tmp 70)) 0 "low.go:186" #[Edge.mk 5 Ground.data, Edge.mk 5 Ground.chain, Edge.mk 0 Ground.phase, Edge.mk 1 Ground.phase, Edge.mk 2 Ground.phase, Edge.mk 3 Ground.phase, Edge.mk 4 Ground.phase, Edge.mk 5 Ground.phase] none
def sy13_Ops : Array Oper := #[sy13_0, sy13_1, sy13_2, sy13_3, sy13_4, sy13_5, sy13_6]

set_option maxHeartbeats 1000000 in
set_option maxRecDepth 100000 in
theorem sy_reg13 (Q : Exit → Act → World → Prop) (hQ : ∀ c a d v w, Q (.panic c) (Act.put a (some d) v) w → Q (.panic c) a w) (a : Act) (ws w w0 : World) (l : List Nd) (v : Value) (k1 k2 k3 r i A : Nat) (nb : Int) (NB OB RB : Nat) (f : Nat → Bool) (hsz : a.tmps.size = 97) (h3 : a.eval (.tmp 3) = .pointer (some ⟨k3, 0, none⟩)) (h8 : a.eval (.tmp 8) = .pointer (some ⟨NB, 0, none⟩)) (h9 : a.eval (.tmp 9) = .pointer (some ⟨OB, 0, none⟩))
    (SA : SaysAt l v w0 w k1 k2 k3 r) (IH : SaysBelow l v w0 k1 k2 k3 r i) (hA : A < i) (hpv : ∀ j, pv l i j = !pv l A j) (GB : ws.grownBy w (some r)) (hOB : ws.heap.size ≤ OB) (hw0 : w0.heap.size ≤ OB) (hk1 : k1 < OB) (hk2 : k2 < OB) (hk3 : k3 < OB) (hkr : r < OB) (hRO : RB ≠ OB) (hN : w.heap[NB]? = some (.cells #[.int .i64 4, .int .i64 (A : Int), .int .i64 nb] 46 (0, 0))) (hO : w.heap[OB]? = some (.cells (pArr f) 33 (0, 0))) (hR : w.heap[RB]? = some (.cells (pArr fun _ => false) 33 (0, 0)))
    (h : ∀ w', SaysAt l v w0 w' k1 k2 k3 r → ws.grownBy w' (some r) → w'.heap[OB]? = some (.cells (pArr (pv l i)) 33 (0, 0)) → w'.heap[RB]? = some (.cells (pArr fun _ => false) 33 (0, 0)) → Q .normal (Act.put (Act.put (Act.put (Act.put (Act.put (Act.put a (some 65) (saysF k1 k2 k3)) (some 66) (.pointer (some ⟨NB, 1, none⟩))) (some 67) (.int .i64 (A : Int))) (some 68) (.agg (pArr (pv l A)))) (some 69) (.agg (pArr f))) (some 70) (.agg (pArr (pv l i)))) w') : (Code.region 13 sy13_Ops true).wp Try.prog Q a w := by
  refine wp_region_held_drew (S := HeldS k1 k2 k3 NB 4 (A : Int) nb) (by kernel_rfl) ⟨SA.2.2.2.2.2.1, hN⟩ (fun hH0 => ?_)
  show wpAnyH Try.prog .any sy13_Ops Q _ 7 (Array.replicate 7 false) a w.drew
  have SA0 : SaysAt l v w0 w.drew k1 k2 k3 r := SA.gr (Gr.refl w).drew
  have hO0 : w.drew.heap[OB]? = _ := hO
  have hR0 : w.drew.heap[RB]? = _ := hR
  have GB0 : ws.grownBy w.drew (some r) := GB.trans (grown_gr (Gr.refl w).drew)
  have hzF : ∀ wx : World, wx.heap[k3]? = some (.cells #[saysF k1 k2 k3] 87 (0, 0)) → wx.cell? ⟨k3, 0, none⟩ = some (saysF k1 k2 k3) := fun wx h => by rw [cell_of_row _ _ _ _ _ _ h]; rfl
  have hzA : ∀ wx : World, wx.heap[NB]? = some (.cells #[.int .i64 4, .int .i64 (A : Int), .int .i64 nb] 46 (0, 0)) → wx.cell? ⟨NB, 1, none⟩ = some (.int .i64 (A : Int)) := fun wx h => by rw [cell_of_row _ _ _ _ _ _ h]; rfl
  refine re_tk (i := 0) (oi := sy13_0) (v := saysF k1 k2 k3) (d := 65) hQ rfl rfl (by kernel_rfl) (by kernel_rfl) (by kernel_rfl) (Or.inl ⟨re_none _ rfl, fun wx hS => rr_loadF _ _ _ _ _ _ _ _ k3 (saysF k1 k2 k3) (by simp [re_ne, re_eq, re_size, re_const, re_func, hsz, h3, h8, h9]) (hzF wx hS.1)⟩) hH0 ?_
  refine re_tk (i := 1) (oi := sy13_1) (v := .pointer (some ⟨NB, 1, none⟩)) (d := 66) hQ rfl rfl (by kernel_rfl) (by kernel_rfl) (by kernel_rfl) (Or.inl ⟨re_none _ rfl, fun wx hS => rr_field1 _ _ _ _ _ _ _ _ NB (by simp [re_ne, re_eq, re_size, re_const, re_func, hsz, h3, h8, h9])⟩) hH0 ?_
  refine re_tk (i := 2) (oi := sy13_2) (v := .int .i64 (A : Int)) (d := 67) hQ rfl rfl (by kernel_rfl) (by kernel_rfl) (by kernel_rfl) (Or.inl ⟨re_none _ rfl, fun wx hS => rr_loadI _ _ _ _ _ _ _ _ NB 1 (A : Int) (by simp [re_ne, re_eq, re_size, re_const, re_func, hsz, h3, h8, h9]) (hzA wx hS.2)⟩) hH0 ?_
  have hSk : ∀ w', w.drew.grownBy w' (some r) → (HeldS k1 k2 k3 NB 4 (A : Int) nb) w' := fun w' gg => And.intro ((gg.block _ (Blk_lt hH0.1) (cells_ne_map hH0.1 SA0.2.2.2.2.2.2)).trans hH0.1) ((gg.block _ (Blk_lt hH0.2) (cells_ne_map hH0.2 SA0.2.2.2.2.2.2)).trans hH0.2)
  refine re_saysrow (i := 3) (j := 4) (oi := sy13_3) (oj := sy13_4) (d := 68) (d2 := 69) (m := A) (by kernel_rfl) (by kernel_rfl) (by kernel_rfl) (by kernel_rfl) rfl rfl rfl rfl (by decide) (by simp [re_ne, re_eq, re_size, re_const, re_func, hsz, h3, h8, h9]) (by simp [re_ne, re_eq, re_size, re_const, re_func, hsz, h3, h8, h9]) (by simp [re_ne, re_eq, re_size, re_const, re_func, hsz, h3, h8, h9]) (by simp [re_ne, re_eq, re_size, re_const, re_func, hsz, h3, h8, h9]) (by simp [re_ne, re_eq, re_size, re_const, re_func, hsz, h3, h8, h9]) (by simp [re_ne, re_eq, re_size, re_const, re_func, hsz, h3, h8, h9]) IH hA SA0 hO0 hH0 hSk (fun w1 SA1 gb1 => ?_)
  have hH1 := hSk w1 gb1
  have hO1 := (gb1.block _ (Blk_lt hO0) (cells_ne_map hO0 SA0.2.2.2.2.2.2)).trans hO0
  have hR1 := (gb1.block _ (Blk_lt hR0) (cells_ne_map hR0 SA0.2.2.2.2.2.2)).trans hR0
  have GB1 := GB0.trans gb1
  refine re_each (i := 5) (oi := sy13_5) (d := 70) (f1 := pv l A) (f2 := f) (g := fun a b => !a) (q := pv l i) (by kernel_rfl) rfl rfl (by simp [re_ne, re_eq, re_size, re_const, re_func, hsz, h3, h8, h9]) (by simp [re_ne, re_eq, re_size, re_const, re_func, hsz, h3, h8, h9]) (each_notR (pv l A) (f) w1) (fun j _ => (hpv j).symm) (fun wz gz => ?_)
  have hHz : (HeldS k1 k2 k3 NB 4 (A : Int) nb) wz := And.intro ((Below.block gz _ (Blk_lt hH1.1)).trans hH1.1) ((Below.block gz _ (Blk_lt hH1.2)).trans hH1.2)
  have hOz := (Below.block gz _ (Blk_lt hO1)).trans hO1
  have hRz := (Below.block gz _ (Blk_lt hR1)).trans hR1
  have SAz := SA1.gr gz
  have GBz := GB1.trans (grown_gr gz)
  have kN : NB ≠ OB := by rintro rfl; rw [hHz.2] at hOz; simp at hOz
  have hHs : (HeldS k1 k2 k3 NB 4 (A : Int) nb) (wz.setRow OB (pArr (pv l i))) := And.intro ((setRow_other _ _ _ _ (by omega)).trans hHz.1) ((setRow_other _ _ _ _ kN).trans hHz.2)
  refine ⟨hHz, ?_⟩
  refine re_rowset (i := 6) (oi := sy13_6) (f := pv l i) (by kernel_rfl) rfl rfl (by simp [re_ne, re_eq, re_size, re_const, re_func, hsz, h3, h8, h9]) (by simp [re_ne, re_eq, re_size, re_const, re_func, hsz, h3, h8, h9]) hOz hHs ?_
  exact wpAnyH_done (by kernel_rfl) (h _ (SAz.row hw0 hk1 hk2 hk3 hkr _) (grown_row GBz hOB _) (setRow_heap _ _ _ _ _ _ hOz) ((setRow_other _ _ _ _ hRO).trans hRz)) _
def sy15_0 : Oper := Oper.mk (some 73) (Op.load 87 (Operand.tmp 3)) 87 "low.go:188" #[] none
def sy15_1 : Oper := Oper.mk (some 74) (Op.fieldAddr 46 (Operand.tmp 8) 1) 0 "low.go:188" #[] none
def sy15_2 : Oper := Oper.mk (some 75) (Op.load 3 (Operand.tmp 74)) 3 "low.go:188" #[Edge.mk 1 Ground.data] none
def sy15_3 : Oper := Oper.mk (some 76) (Op.call (Call.mk (Callee.value (Operand.tmp 73)) #[Operand.tmp 75] #[3])) 33 "low.go:188" #[Edge.mk 0 Ground.data, Edge.mk 2 Ground.data] none
def sy15_4 : Oper := Oper.mk (some 77) (Op.load 87 (Operand.tmp 3)) 87 "low.go:188" #[] none
def sy15_5 : Oper := Oper.mk (some 78) (Op.fieldAddr 46 (Operand.tmp 8) 2) 0 "low.go:188" #[] none
def sy15_6 : Oper := Oper.mk (some 79) (Op.load 3 (Operand.tmp 78)) 3 "low.go:188" #[Edge.mk 5 Ground.data] none
def sy15_7 : Oper := Oper.mk (some 80) (Op.call (Call.mk (Callee.value (Operand.tmp 77)) #[Operand.tmp 79] #[3])) 33 "low.go:188" #[Edge.mk 4 Ground.data, Edge.mk 6 Ground.data, Edge.mk 3 Ground.chain] none
def sy15_8 : Oper := Oper.mk (some 81) (Op.call (Call.mk (Callee.value (Operand.func 51)) #[Operand.tmp 76, Operand.tmp 80, Operand.func 53] #[33, 33, 90])) 33 "low.go:188" #[Edge.mk 3 Ground.data, Edge.mk 7 Ground.data, Edge.mk 7 Ground.chain] none
def sy15_9 : Oper := Oper.mk none (Op.store 33 (Operand.tmp 9) (Operand.tmp 81)) 0 "low.go:188" #[Edge.mk 8 Ground.data, Edge.mk 8 Ground.chain, Edge.mk 0 Ground.phase, Edge.mk 1 Ground.phase, Edge.mk 2 Ground.phase, Edge.mk 3 Ground.phase, Edge.mk 4 Ground.phase, Edge.mk 5 Ground.phase, Edge.mk 6 Ground.phase, Edge.mk 7 Ground.phase, Edge.mk 8 Ground.phase] none
def sy15_Ops : Array Oper := #[sy15_0, sy15_1, sy15_2, sy15_3, sy15_4, sy15_5, sy15_6, sy15_7, sy15_8, sy15_9]

set_option maxHeartbeats 1000000 in
set_option maxRecDepth 100000 in
theorem sy_reg15 (Q : Exit → Act → World → Prop) (hQ : ∀ c a d v w, Q (.panic c) (Act.put a (some d) v) w → Q (.panic c) a w) (a : Act) (ws w w0 : World) (l : List Nd) (v : Value) (k1 k2 k3 r i A C : Nat) (NB OB RB : Nat) (f : Nat → Bool) (hsz : a.tmps.size = 97) (h3 : a.eval (.tmp 3) = .pointer (some ⟨k3, 0, none⟩)) (h8 : a.eval (.tmp 8) = .pointer (some ⟨NB, 0, none⟩)) (h9 : a.eval (.tmp 9) = .pointer (some ⟨OB, 0, none⟩))
    (SA : SaysAt l v w0 w k1 k2 k3 r) (IH : SaysBelow l v w0 k1 k2 k3 r i) (hA : A < i) (hC : C < i) (hpv : ∀ j, pv l i j = (pv l A j && pv l C j)) (GB : ws.grownBy w (some r)) (hOB : ws.heap.size ≤ OB) (hw0 : w0.heap.size ≤ OB) (hk1 : k1 < OB) (hk2 : k2 < OB) (hk3 : k3 < OB) (hkr : r < OB) (hRO : RB ≠ OB) (hN : w.heap[NB]? = some (.cells #[.int .i64 5, .int .i64 (A : Int), .int .i64 (C : Int)] 46 (0, 0))) (hO : w.heap[OB]? = some (.cells (pArr f) 33 (0, 0))) (hR : w.heap[RB]? = some (.cells (pArr fun _ => false) 33 (0, 0)))
    (h : ∀ w', SaysAt l v w0 w' k1 k2 k3 r → ws.grownBy w' (some r) → w'.heap[OB]? = some (.cells (pArr (pv l i)) 33 (0, 0)) → w'.heap[RB]? = some (.cells (pArr fun _ => false) 33 (0, 0)) → Q .normal (Act.put (Act.put (Act.put (Act.put (Act.put (Act.put (Act.put (Act.put (Act.put a (some 73) (saysF k1 k2 k3)) (some 74) (.pointer (some ⟨NB, 1, none⟩))) (some 75) (.int .i64 (A : Int))) (some 77) (saysF k1 k2 k3)) (some 78) (.pointer (some ⟨NB, 2, none⟩))) (some 79) (.int .i64 (C : Int))) (some 76) (.agg (pArr (pv l A)))) (some 80) (.agg (pArr (pv l C)))) (some 81) (.agg (pArr (pv l i)))) w') : (Code.region 15 sy15_Ops true).wp Try.prog Q a w := by
  refine wp_region_held_drew (S := HeldS k1 k2 k3 NB 5 (A : Int) (C : Int)) (by kernel_rfl) ⟨SA.2.2.2.2.2.1, hN⟩ (fun hH0 => ?_)
  show wpAnyH Try.prog .any sy15_Ops Q _ 10 (Array.replicate 10 false) a w.drew
  have SA0 : SaysAt l v w0 w.drew k1 k2 k3 r := SA.gr (Gr.refl w).drew
  have hO0 : w.drew.heap[OB]? = _ := hO
  have hR0 : w.drew.heap[RB]? = _ := hR
  have GB0 : ws.grownBy w.drew (some r) := GB.trans (grown_gr (Gr.refl w).drew)
  have hzF : ∀ wx : World, wx.heap[k3]? = some (.cells #[saysF k1 k2 k3] 87 (0, 0)) → wx.cell? ⟨k3, 0, none⟩ = some (saysF k1 k2 k3) := fun wx h => by rw [cell_of_row _ _ _ _ _ _ h]; rfl
  have hzA : ∀ wx : World, wx.heap[NB]? = some (.cells #[.int .i64 5, .int .i64 (A : Int), .int .i64 (C : Int)] 46 (0, 0)) → wx.cell? ⟨NB, 1, none⟩ = some (.int .i64 (A : Int)) := fun wx h => by rw [cell_of_row _ _ _ _ _ _ h]; rfl
  have hzC : ∀ wx : World, wx.heap[NB]? = some (.cells #[.int .i64 5, .int .i64 (A : Int), .int .i64 (C : Int)] 46 (0, 0)) → wx.cell? ⟨NB, 2, none⟩ = some (.int .i64 (C : Int)) := fun wx h => by rw [cell_of_row _ _ _ _ _ _ h]; rfl
  refine re_tk (i := 0) (oi := sy15_0) (v := saysF k1 k2 k3) (d := 73) hQ rfl rfl (by kernel_rfl) (by kernel_rfl) (by kernel_rfl) (Or.inl ⟨re_none _ rfl, fun wx hS => rr_loadF _ _ _ _ _ _ _ _ k3 (saysF k1 k2 k3) (by simp [re_ne, re_eq, re_size, re_const, re_func, hsz, h3, h8, h9]) (hzF wx hS.1)⟩) hH0 ?_
  refine re_tk (i := 1) (oi := sy15_1) (v := .pointer (some ⟨NB, 1, none⟩)) (d := 74) hQ rfl rfl (by kernel_rfl) (by kernel_rfl) (by kernel_rfl) (Or.inl ⟨re_none _ rfl, fun wx hS => rr_field1 _ _ _ _ _ _ _ _ NB (by simp [re_ne, re_eq, re_size, re_const, re_func, hsz, h3, h8, h9])⟩) hH0 ?_
  refine re_tk (i := 2) (oi := sy15_2) (v := .int .i64 (A : Int)) (d := 75) hQ rfl rfl (by kernel_rfl) (by kernel_rfl) (by kernel_rfl) (Or.inl ⟨re_none _ rfl, fun wx hS => rr_loadI _ _ _ _ _ _ _ _ NB 1 (A : Int) (by simp [re_ne, re_eq, re_size, re_const, re_func, hsz, h3, h8, h9]) (hzA wx hS.2)⟩) hH0 ?_
  refine re_tk (i := 4) (oi := sy15_4) (v := saysF k1 k2 k3) (d := 77) hQ rfl rfl (by kernel_rfl) (by kernel_rfl) (by kernel_rfl) (Or.inl ⟨re_none _ rfl, fun wx hS => rr_loadF _ _ _ _ _ _ _ _ k3 (saysF k1 k2 k3) (by simp [re_ne, re_eq, re_size, re_const, re_func, hsz, h3, h8, h9]) (hzF wx hS.1)⟩) hH0 ?_
  refine re_tk (i := 5) (oi := sy15_5) (v := .pointer (some ⟨NB, 2, none⟩)) (d := 78) hQ rfl rfl (by kernel_rfl) (by kernel_rfl) (by kernel_rfl) (Or.inl ⟨re_none _ rfl, fun wx hS => rr_field2 _ _ _ _ _ _ _ _ NB (by simp [re_ne, re_eq, re_size, re_const, re_func, hsz, h3, h8, h9])⟩) hH0 ?_
  refine re_tk (i := 6) (oi := sy15_6) (v := .int .i64 (C : Int)) (d := 79) hQ rfl rfl (by kernel_rfl) (by kernel_rfl) (by kernel_rfl) (Or.inl ⟨re_none _ rfl, fun wx hS => rr_loadI _ _ _ _ _ _ _ _ NB 2 (C : Int) (by simp [re_ne, re_eq, re_size, re_const, re_func, hsz, h3, h8, h9]) (hzC wx hS.2)⟩) hH0 ?_
  refine re_says (i := 3) (oi := sy15_3) (d := 76) (m := A) (by kernel_rfl) rfl rfl (by simp [re_ne, re_eq, re_size, re_const, re_func, hsz, h3, h8, h9]) (by simp [re_ne, re_eq, re_size, re_const, re_func, hsz, h3, h8, h9]) IH hA SA0 (fun w1 SA1 gb1 => ?_)
  have hH1 : (HeldS k1 k2 k3 NB 5 (A : Int) (C : Int)) w1 := And.intro ((gb1.block _ (Blk_lt hH0.1) (cells_ne_map hH0.1 SA0.2.2.2.2.2.2)).trans hH0.1) ((gb1.block _ (Blk_lt hH0.2) (cells_ne_map hH0.2 SA0.2.2.2.2.2.2)).trans hH0.2)
  have hO1 := (gb1.block _ (Blk_lt hO0) (cells_ne_map hO0 SA0.2.2.2.2.2.2)).trans hO0
  have hR1 := (gb1.block _ (Blk_lt hR0) (cells_ne_map hR0 SA0.2.2.2.2.2.2)).trans hR0
  have GB1 := GB0.trans gb1
  refine ⟨hH1, ?_⟩
  refine re_says (i := 7) (oi := sy15_7) (d := 80) (m := C) (by kernel_rfl) rfl rfl (by simp [re_ne, re_eq, re_size, re_const, re_func, hsz, h3, h8, h9]) (by simp [re_ne, re_eq, re_size, re_const, re_func, hsz, h3, h8, h9]) IH hC SA1 (fun w2 SA2 gb2 => ?_)
  have hH2 : (HeldS k1 k2 k3 NB 5 (A : Int) (C : Int)) w2 := And.intro ((gb2.block _ (Blk_lt hH1.1) (cells_ne_map hH1.1 SA1.2.2.2.2.2.2)).trans hH1.1) ((gb2.block _ (Blk_lt hH1.2) (cells_ne_map hH1.2 SA1.2.2.2.2.2.2)).trans hH1.2)
  have hO2 := (gb2.block _ (Blk_lt hO1) (cells_ne_map hO1 SA1.2.2.2.2.2.2)).trans hO1
  have hR2 := (gb2.block _ (Blk_lt hR1) (cells_ne_map hR1 SA1.2.2.2.2.2.2)).trans hR1
  have GB2 := GB1.trans gb2
  refine ⟨hH2, ?_⟩
  refine re_each (i := 8) (oi := sy15_8) (d := 81) (f1 := pv l A) (f2 := pv l C) (g := fun a b => a && b) (q := pv l i) (by kernel_rfl) rfl rfl (by simp [re_ne, re_eq, re_size, re_const, re_func, hsz, h3, h8, h9]) (by simp [re_ne, re_eq, re_size, re_const, re_func, hsz, h3, h8, h9]) (each_andR (pv l A) (pv l C) w2) (fun j _ => (hpv j).symm) (fun wz gz => ?_)
  have hHz : (HeldS k1 k2 k3 NB 5 (A : Int) (C : Int)) wz := And.intro ((Below.block gz _ (Blk_lt hH2.1)).trans hH2.1) ((Below.block gz _ (Blk_lt hH2.2)).trans hH2.2)
  have hOz := (Below.block gz _ (Blk_lt hO2)).trans hO2
  have hRz := (Below.block gz _ (Blk_lt hR2)).trans hR2
  have SAz := SA2.gr gz
  have GBz := GB2.trans (grown_gr gz)
  have kN : NB ≠ OB := by rintro rfl; rw [hHz.2] at hOz; simp at hOz
  have hHs : (HeldS k1 k2 k3 NB 5 (A : Int) (C : Int)) (wz.setRow OB (pArr (pv l i))) := And.intro ((setRow_other _ _ _ _ (by omega)).trans hHz.1) ((setRow_other _ _ _ _ kN).trans hHz.2)
  refine ⟨hHz, ?_⟩
  refine re_rowset (i := 9) (oi := sy15_9) (f := pv l i) (by kernel_rfl) rfl rfl (by simp [re_ne, re_eq, re_size, re_const, re_func, hsz, h3, h8, h9]) (by simp [re_ne, re_eq, re_size, re_const, re_func, hsz, h3, h8, h9]) hOz hHs ?_
  exact wpAnyH_done (by kernel_rfl) (h _ (SAz.row hw0 hk1 hk2 hk3 hkr _) (grown_row GBz hOB _) (setRow_heap _ _ _ _ _ _ hOz) ((setRow_other _ _ _ _ hRO).trans hRz)) _
def sy17_0 : Oper := Oper.mk (some 84) (Op.load 87 (Operand.tmp 3)) 87 "low.go:190" #[] none
def sy17_1 : Oper := Oper.mk (some 85) (Op.fieldAddr 46 (Operand.tmp 8) 1) 0 "low.go:190" #[] none
def sy17_2 : Oper := Oper.mk (some 86) (Op.load 3 (Operand.tmp 85)) 3 "low.go:190" #[Edge.mk 1 Ground.data] none
def sy17_3 : Oper := Oper.mk (some 87) (Op.call (Call.mk (Callee.value (Operand.tmp 84)) #[Operand.tmp 86] #[3])) 33 "low.go:190" #[Edge.mk 0 Ground.data, Edge.mk 2 Ground.data] none
def sy17_4 : Oper := Oper.mk (some 88) (Op.load 87 (Operand.tmp 3)) 87 "low.go:190" #[] none
def sy17_5 : Oper := Oper.mk (some 89) (Op.fieldAddr 46 (Operand.tmp 8) 2) 0 "low.go:190" #[] none
def sy17_6 : Oper := Oper.mk (some 90) (Op.load 3 (Operand.tmp 89)) 3 "low.go:190" #[Edge.mk 5 Ground.data] none
def sy17_7 : Oper := Oper.mk (some 91) (Op.call (Call.mk (Callee.value (Operand.tmp 88)) #[Operand.tmp 90] #[3])) 33 "low.go:190" #[Edge.mk 4 Ground.data, Edge.mk 6 Ground.data, Edge.mk 3 Ground.chain] none
def sy17_8 : Oper := Oper.mk (some 92) (Op.call (Call.mk (Callee.value (Operand.func 51)) #[Operand.tmp 87, Operand.tmp 91, Operand.func 54] #[33, 33, 90])) 33 "low.go:190" #[Edge.mk 3 Ground.data, Edge.mk 7 Ground.data, Edge.mk 7 Ground.chain] none
def sy17_9 : Oper := Oper.mk none (Op.store 33 (Operand.tmp 9) (Operand.tmp 92)) 0 "low.go:190" #[Edge.mk 8 Ground.data, Edge.mk 8 Ground.chain, Edge.mk 0 Ground.phase, Edge.mk 1 Ground.phase, Edge.mk 2 Ground.phase, Edge.mk 3 Ground.phase, Edge.mk 4 Ground.phase, Edge.mk 5 Ground.phase, Edge.mk 6 Ground.phase, Edge.mk 7 Ground.phase, Edge.mk 8 Ground.phase] none
def sy17_Ops : Array Oper := #[sy17_0, sy17_1, sy17_2, sy17_3, sy17_4, sy17_5, sy17_6, sy17_7, sy17_8, sy17_9]

set_option maxHeartbeats 1000000 in
set_option maxRecDepth 100000 in
theorem sy_reg17 (Q : Exit → Act → World → Prop) (hQ : ∀ c a d v w, Q (.panic c) (Act.put a (some d) v) w → Q (.panic c) a w) (a : Act) (ws w w0 : World) (l : List Nd) (v : Value) (k1 k2 k3 r i A C : Nat) (NB OB RB : Nat) (f : Nat → Bool) (hsz : a.tmps.size = 97) (h3 : a.eval (.tmp 3) = .pointer (some ⟨k3, 0, none⟩)) (h8 : a.eval (.tmp 8) = .pointer (some ⟨NB, 0, none⟩)) (h9 : a.eval (.tmp 9) = .pointer (some ⟨OB, 0, none⟩))
    (SA : SaysAt l v w0 w k1 k2 k3 r) (IH : SaysBelow l v w0 k1 k2 k3 r i) (hA : A < i) (hC : C < i) (hpv : ∀ j, pv l i j = (pv l A j || pv l C j)) (GB : ws.grownBy w (some r)) (hOB : ws.heap.size ≤ OB) (hw0 : w0.heap.size ≤ OB) (hk1 : k1 < OB) (hk2 : k2 < OB) (hk3 : k3 < OB) (hkr : r < OB) (hRO : RB ≠ OB) (hN : w.heap[NB]? = some (.cells #[.int .i64 6, .int .i64 (A : Int), .int .i64 (C : Int)] 46 (0, 0))) (hO : w.heap[OB]? = some (.cells (pArr f) 33 (0, 0))) (hR : w.heap[RB]? = some (.cells (pArr fun _ => false) 33 (0, 0)))
    (h : ∀ w', SaysAt l v w0 w' k1 k2 k3 r → ws.grownBy w' (some r) → w'.heap[OB]? = some (.cells (pArr (pv l i)) 33 (0, 0)) → w'.heap[RB]? = some (.cells (pArr fun _ => false) 33 (0, 0)) → Q .normal (Act.put (Act.put (Act.put (Act.put (Act.put (Act.put (Act.put (Act.put (Act.put a (some 84) (saysF k1 k2 k3)) (some 85) (.pointer (some ⟨NB, 1, none⟩))) (some 86) (.int .i64 (A : Int))) (some 88) (saysF k1 k2 k3)) (some 89) (.pointer (some ⟨NB, 2, none⟩))) (some 90) (.int .i64 (C : Int))) (some 87) (.agg (pArr (pv l A)))) (some 91) (.agg (pArr (pv l C)))) (some 92) (.agg (pArr (pv l i)))) w') : (Code.region 17 sy17_Ops true).wp Try.prog Q a w := by
  refine wp_region_held_drew (S := HeldS k1 k2 k3 NB 6 (A : Int) (C : Int)) (by kernel_rfl) ⟨SA.2.2.2.2.2.1, hN⟩ (fun hH0 => ?_)
  show wpAnyH Try.prog .any sy17_Ops Q _ 10 (Array.replicate 10 false) a w.drew
  have SA0 : SaysAt l v w0 w.drew k1 k2 k3 r := SA.gr (Gr.refl w).drew
  have hO0 : w.drew.heap[OB]? = _ := hO
  have hR0 : w.drew.heap[RB]? = _ := hR
  have GB0 : ws.grownBy w.drew (some r) := GB.trans (grown_gr (Gr.refl w).drew)
  have hzF : ∀ wx : World, wx.heap[k3]? = some (.cells #[saysF k1 k2 k3] 87 (0, 0)) → wx.cell? ⟨k3, 0, none⟩ = some (saysF k1 k2 k3) := fun wx h => by rw [cell_of_row _ _ _ _ _ _ h]; rfl
  have hzA : ∀ wx : World, wx.heap[NB]? = some (.cells #[.int .i64 6, .int .i64 (A : Int), .int .i64 (C : Int)] 46 (0, 0)) → wx.cell? ⟨NB, 1, none⟩ = some (.int .i64 (A : Int)) := fun wx h => by rw [cell_of_row _ _ _ _ _ _ h]; rfl
  have hzC : ∀ wx : World, wx.heap[NB]? = some (.cells #[.int .i64 6, .int .i64 (A : Int), .int .i64 (C : Int)] 46 (0, 0)) → wx.cell? ⟨NB, 2, none⟩ = some (.int .i64 (C : Int)) := fun wx h => by rw [cell_of_row _ _ _ _ _ _ h]; rfl
  refine re_tk (i := 0) (oi := sy17_0) (v := saysF k1 k2 k3) (d := 84) hQ rfl rfl (by kernel_rfl) (by kernel_rfl) (by kernel_rfl) (Or.inl ⟨re_none _ rfl, fun wx hS => rr_loadF _ _ _ _ _ _ _ _ k3 (saysF k1 k2 k3) (by simp [re_ne, re_eq, re_size, re_const, re_func, hsz, h3, h8, h9]) (hzF wx hS.1)⟩) hH0 ?_
  refine re_tk (i := 1) (oi := sy17_1) (v := .pointer (some ⟨NB, 1, none⟩)) (d := 85) hQ rfl rfl (by kernel_rfl) (by kernel_rfl) (by kernel_rfl) (Or.inl ⟨re_none _ rfl, fun wx hS => rr_field1 _ _ _ _ _ _ _ _ NB (by simp [re_ne, re_eq, re_size, re_const, re_func, hsz, h3, h8, h9])⟩) hH0 ?_
  refine re_tk (i := 2) (oi := sy17_2) (v := .int .i64 (A : Int)) (d := 86) hQ rfl rfl (by kernel_rfl) (by kernel_rfl) (by kernel_rfl) (Or.inl ⟨re_none _ rfl, fun wx hS => rr_loadI _ _ _ _ _ _ _ _ NB 1 (A : Int) (by simp [re_ne, re_eq, re_size, re_const, re_func, hsz, h3, h8, h9]) (hzA wx hS.2)⟩) hH0 ?_
  refine re_tk (i := 4) (oi := sy17_4) (v := saysF k1 k2 k3) (d := 88) hQ rfl rfl (by kernel_rfl) (by kernel_rfl) (by kernel_rfl) (Or.inl ⟨re_none _ rfl, fun wx hS => rr_loadF _ _ _ _ _ _ _ _ k3 (saysF k1 k2 k3) (by simp [re_ne, re_eq, re_size, re_const, re_func, hsz, h3, h8, h9]) (hzF wx hS.1)⟩) hH0 ?_
  refine re_tk (i := 5) (oi := sy17_5) (v := .pointer (some ⟨NB, 2, none⟩)) (d := 89) hQ rfl rfl (by kernel_rfl) (by kernel_rfl) (by kernel_rfl) (Or.inl ⟨re_none _ rfl, fun wx hS => rr_field2 _ _ _ _ _ _ _ _ NB (by simp [re_ne, re_eq, re_size, re_const, re_func, hsz, h3, h8, h9])⟩) hH0 ?_
  refine re_tk (i := 6) (oi := sy17_6) (v := .int .i64 (C : Int)) (d := 90) hQ rfl rfl (by kernel_rfl) (by kernel_rfl) (by kernel_rfl) (Or.inl ⟨re_none _ rfl, fun wx hS => rr_loadI _ _ _ _ _ _ _ _ NB 2 (C : Int) (by simp [re_ne, re_eq, re_size, re_const, re_func, hsz, h3, h8, h9]) (hzC wx hS.2)⟩) hH0 ?_
  refine re_says (i := 3) (oi := sy17_3) (d := 87) (m := A) (by kernel_rfl) rfl rfl (by simp [re_ne, re_eq, re_size, re_const, re_func, hsz, h3, h8, h9]) (by simp [re_ne, re_eq, re_size, re_const, re_func, hsz, h3, h8, h9]) IH hA SA0 (fun w1 SA1 gb1 => ?_)
  have hH1 : (HeldS k1 k2 k3 NB 6 (A : Int) (C : Int)) w1 := And.intro ((gb1.block _ (Blk_lt hH0.1) (cells_ne_map hH0.1 SA0.2.2.2.2.2.2)).trans hH0.1) ((gb1.block _ (Blk_lt hH0.2) (cells_ne_map hH0.2 SA0.2.2.2.2.2.2)).trans hH0.2)
  have hO1 := (gb1.block _ (Blk_lt hO0) (cells_ne_map hO0 SA0.2.2.2.2.2.2)).trans hO0
  have hR1 := (gb1.block _ (Blk_lt hR0) (cells_ne_map hR0 SA0.2.2.2.2.2.2)).trans hR0
  have GB1 := GB0.trans gb1
  refine ⟨hH1, ?_⟩
  refine re_says (i := 7) (oi := sy17_7) (d := 91) (m := C) (by kernel_rfl) rfl rfl (by simp [re_ne, re_eq, re_size, re_const, re_func, hsz, h3, h8, h9]) (by simp [re_ne, re_eq, re_size, re_const, re_func, hsz, h3, h8, h9]) IH hC SA1 (fun w2 SA2 gb2 => ?_)
  have hH2 : (HeldS k1 k2 k3 NB 6 (A : Int) (C : Int)) w2 := And.intro ((gb2.block _ (Blk_lt hH1.1) (cells_ne_map hH1.1 SA1.2.2.2.2.2.2)).trans hH1.1) ((gb2.block _ (Blk_lt hH1.2) (cells_ne_map hH1.2 SA1.2.2.2.2.2.2)).trans hH1.2)
  have hO2 := (gb2.block _ (Blk_lt hO1) (cells_ne_map hO1 SA1.2.2.2.2.2.2)).trans hO1
  have hR2 := (gb2.block _ (Blk_lt hR1) (cells_ne_map hR1 SA1.2.2.2.2.2.2)).trans hR1
  have GB2 := GB1.trans gb2
  refine ⟨hH2, ?_⟩
  refine re_each (i := 8) (oi := sy17_8) (d := 92) (f1 := pv l A) (f2 := pv l C) (g := fun a b => a || b) (q := pv l i) (by kernel_rfl) rfl rfl (by simp [re_ne, re_eq, re_size, re_const, re_func, hsz, h3, h8, h9]) (by simp [re_ne, re_eq, re_size, re_const, re_func, hsz, h3, h8, h9]) (each_orR (pv l A) (pv l C) w2) (fun j _ => (hpv j).symm) (fun wz gz => ?_)
  have hHz : (HeldS k1 k2 k3 NB 6 (A : Int) (C : Int)) wz := And.intro ((Below.block gz _ (Blk_lt hH2.1)).trans hH2.1) ((Below.block gz _ (Blk_lt hH2.2)).trans hH2.2)
  have hOz := (Below.block gz _ (Blk_lt hO2)).trans hO2
  have hRz := (Below.block gz _ (Blk_lt hR2)).trans hR2
  have SAz := SA2.gr gz
  have GBz := GB2.trans (grown_gr gz)
  have kN : NB ≠ OB := by rintro rfl; rw [hHz.2] at hOz; simp at hOz
  have hHs : (HeldS k1 k2 k3 NB 6 (A : Int) (C : Int)) (wz.setRow OB (pArr (pv l i))) := And.intro ((setRow_other _ _ _ _ (by omega)).trans hHz.1) ((setRow_other _ _ _ _ kN).trans hHz.2)
  refine ⟨hHz, ?_⟩
  refine re_rowset (i := 9) (oi := sy17_9) (f := pv l i) (by kernel_rfl) rfl rfl (by simp [re_ne, re_eq, re_size, re_const, re_func, hsz, h3, h8, h9]) (by simp [re_ne, re_eq, re_size, re_const, re_func, hsz, h3, h8, h9]) hOz hHs ?_
  exact wpAnyH_done (by kernel_rfl) (h _ (SAz.row hw0 hk1 hk2 hk3 hkr _) (grown_row GBz hOB _) (setRow_heap _ _ _ _ _ _ hOz) ((setRow_other _ _ _ _ hRO).trans hRz)) _
end Go.Proofs.Ythnoafmdecehcaa
