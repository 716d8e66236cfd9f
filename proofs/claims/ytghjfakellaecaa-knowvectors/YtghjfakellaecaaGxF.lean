/- A region that draws its order: a chain of calls, then two parts of its answer are taken, a block is made whenever it likes, and the first part is stored in it. -/
import Derived.Test.YtghjfakellaecaaGxH
set_option linter.unusedVariables false
set_option linter.unusedSimpArgs false
namespace Gx
open Go Go.RowKit Rm
section
variable {P : Program} {ops : Array Oper} {Q : Exit → Act → World → Prop} {N : Nat} {a₀ : Act} {w₀ : World} {hs : List Nat}
/-- the operation that makes the block waits for nothing; the others that do not come first wait for all that do -/
def shapeF (ops : Array Oper) (hs : List Nat) (f : Nat) : Bool :=
  (hs.all fun i => ((ops[i]?).bind (·.dst)).isSome && ((hs.all fun j => Nat.beq j i || !Nat.beq (dstAt ops j) (dstAt ops i))) && (!Nat.beq (dstAt ops i) (dstAt ops f)) && (match ops[i]? with | some o => o.after.toList.all fun e => !(Region.binds .any e) || hd hs e.on | none => false)) &&
  (!hd hs f) && (match ops[f]? with | some o => (o.after.toList.all fun e => !(Region.binds .any e)) && (match o.dst with | some _ => true | none => false) && (match o.guard with | none => true | some _ => false) | none => false) &&
  ((List.range ops.size).all fun i => hd hs i || Nat.beq i f || (hs.all fun j => reach ops ops.size i j))
theorem shapeF_spec {f : Nat} (h : shapeF ops hs f = true) : (∀ i, hd hs i = true → ∃ o, ops[i]? = some o ∧ o.dst = some (dstAt ops i) ∧ ∀ e ∈ o.after, Region.binds .any e = true → hd hs e.on = true) ∧
    (∀ i j, hd hs i = true → hd hs j = true → i ≠ j → dstAt ops j ≠ dstAt ops i) ∧ (∀ i, hd hs i = true → dstAt ops i ≠ dstAt ops f) ∧ hd hs f = false ∧ (∃ o, ops[f]? = some o ∧ o.dst = some (dstAt ops f) ∧ o.guard = none ∧ ∀ e ∈ o.after, Region.binds .any e = false) ∧ (∀ i, i < ops.size → hd hs i = false → i ≠ f → ∀ j, hd hs j = true → reach ops ops.size i j = true) := by
  unfold shapeF at h
  simp only [Bool.and_eq_true] at h
  obtain ⟨⟨⟨h1, h2⟩, h3⟩, h4⟩ := h
  have key : ∀ i, hd hs i = true → ((((ops[i]?).bind (·.dst)).isSome = true ∧ (∀ j, hd hs j = true → i ≠ j → dstAt ops j ≠ dstAt ops i)) ∧ dstAt ops i ≠ dstAt ops f) ∧ (match ops[i]? with | some o => o.after.toList.all fun e => !(Region.binds .any e) || hd hs e.on | none => false) = true := by
    intro i hi
    have := List.all_eq_true.1 h1 i (hd_mem.1 hi)
    simp only [Bool.and_eq_true] at this
    refine ⟨⟨⟨this.1.1.1, fun j hj hne => ?_⟩, ?_⟩, this.2⟩
    · have h3 := List.all_eq_true.1 this.1.1.2 j (hd_mem.1 hj)
      rw [Bool.or_eq_true] at h3
      rcases h3 with h3 | h3
      · exact absurd (Nat.eq_of_beq_eq_true h3).symm hne
      · rw [Bool.not_eq_true'] at h3
        exact Nat.ne_of_beq_eq_false h3
    · have := this.1.2
      rw [Bool.not_eq_true'] at this
      exact Nat.ne_of_beq_eq_false this
  refine ⟨fun i hi => ?_, fun i j hi hj hne => (key i hi).1.1.2 j hj hne, fun i hi => (key i hi).1.2, by simpa using h2, ?_, fun i hi hn hf j hj => ?_⟩
  · obtain ⟨⟨⟨k1, -⟩, -⟩, k2⟩ := key i hi
    cases ho : ops[i]? with
    | none => rw [ho] at k1; cases k1
    | some o =>
      refine ⟨o, rfl, ?_, fun e he hb => ?_⟩
      · rw [ho] at k1
        simp only [Option.bind_some] at k1
        obtain ⟨d, hd'⟩ := Option.isSome_iff_exists.1 k1
        unfold dstAt
        rw [ho]
        simp [hd']
      · rw [ho] at k2
        have := List.all_eq_true.1 k2 e (by simpa using he)
        rw [hb] at this
        simpa using this
  · cases ho : ops[f]? with
    | none => rw [ho] at h3; cases h3
    | some o =>
      rw [ho] at h3
      simp only [Bool.and_eq_true] at h3
      obtain ⟨⟨h5, h6⟩, h7⟩ := h3
      refine ⟨o, rfl, ?_, ?_, fun e he => ?_⟩
      · cases hd' : o.dst with
        | none => rw [hd'] at h6; cases h6
        | some d => unfold dstAt; rw [ho]; simp [hd']
      · cases hg : o.guard with
        | none => rfl
        | some x => rw [hg] at h7; cases h7
      · have := List.all_eq_true.1 h5 e (by simpa using he)
        simpa using this
  · have := List.all_eq_true.1 h4 i (List.mem_range.2 hi)
    rw [hn, Bool.false_or, Bool.or_eq_true] at this
    rcases this with this | this
    · exact absurd (Nat.eq_of_beq_eq_true this) hf
    · exact List.all_eq_true.1 this j (hd_mem.1 hj)
structure WayF (ops : Array Oper) (hs : List Nat) (f : Nat) (z : Array Value) (ty : TypeId) (js : Js) (N : Nat) (a₀ : Act) (w₀ : World) (U : List Nat) (L : Array Bool) (a : Act) (w : World) : Prop where
  ok : Ok N a
  gr : Gr w₀ w
  old : ∀ t, (fdH ops (f :: hs)).all (fun d => !Nat.beq t d) = true → a.eval (.tmp t) = a₀.eval (.tmp t)
  size : L.size = ops.size
  closed : Closed ops L
  nodup : U.Nodup
  un : ∀ j, hd hs j = true → (L.getD j false = false ↔ j ∈ U)
  lt : ∀ j ∈ U, hd hs j = true
  tail : ∀ j, hd hs j = false → j ≠ f → L.getD j false = false
  made : L.getD f false = true → ∃ b, a.eval (.tmp (dstAt ops f)) = .pointer (some ⟨b, 0, none⟩) ∧ w₀.heap.size ≤ b ∧ Bk w b z ty
  js : ∀ j, hd hs j = true → L.getD j false = true → jAt js j (a.eval (.tmp (dstAt ops j))) w
structure PostF (ops : Array Oper) (hs : List Nat) (f : Nat) (js : Js) (N : Nat) (a₀ : Act) (w₀ : World) (a : Act) (w : World) : Prop where
  ok : Ok N a
  gr : Gr w₀ w
  old : ∀ t, (fdH ops (f :: hs)).all (fun d => !Nat.beq t d) = true → a.eval (.tmp t) = a₀.eval (.tmp t)
  js : ∀ j, hd hs j = true → jAt js j (a.eval (.tmp (dstAt ops j))) w
theorem fd_cons {f i d : Nat} {o : Oper} (ho : ops[i]? = some o) (hi : hd hs i = true ∨ i = f) (hdst : o.dst = some d) : d ∈ fdH ops (f :: hs) := by
  unfold fdH
  rw [List.mem_filterMap]
  refine ⟨i, ?_, by rw [ho]; exact hdst⟩
  rcases hi with hi | hi
  · exact List.mem_cons_of_mem _ (hd_mem.1 hi)
  · rw [hi]; exact List.mem_cons_self ..
theorem RegH.wayF {n : Nat} {js : Js} {f : Nat} {z : Array Value} {ty : TypeId} (R : RegH P ops Q N a₀ w₀ (f :: hs) n js) (hn0 : n = ops.size) (hsh : shapeF ops hs f = true) (hN : ((f :: hs).all fun i => Nat.blt (dstAt ops i) N) = true) (k : Nat)
    (hrun : ∀ (o : Oper) (a : Act) (w : World), ops[f]? = some o → (execOp a.eval o).run P w = .ok (.value (.pointer (some ⟨w.heap.size, 0, none⟩))) (w.alloc (.cells z ty)))
    (hend : ∀ a w, PostF ops hs f js N a₀ w₀ a w → wpAny P .any ops Q (k + 1) (firstsH ops.size hs) a w ∧ True)
    (hend2 : ∀ a w b, PostF ops hs f js N a₀ w₀ a w → a.eval (.tmp (dstAt ops f)) = .pointer (some ⟨b, 0, none⟩) → w₀.heap.size ≤ b → Bk w b z ty → wpAny P .any ops Q k (firstsH ops.size (f :: hs)) a w) :
    ∀ (U : List Nat) (L : Array Bool) (a : Act) (w : World), WayF ops hs f z ty js N a₀ w₀ U L a w → wpAny P .any ops Q (U.length + (if L.getD f false = true then k else k + 1)) L a w := by
  obtain ⟨hdd0, hdd, hdf, hff, ⟨of, hof, hofd, hofg, hofa⟩, ht⟩ := shapeF_spec hsh
  subst hn0
  have hb := backs_spec R.back
  have hfs : f < ops.size := (Array.getElem?_eq_some_iff.1 hof).1
  have main : ∀ m U L a w, U.length + (if L.getD f false = true then 0 else 1) = m → WayF ops hs f z ty js N a₀ w₀ U L a w → wpAny P .any ops Q (U.length + (if L.getD f false = true then k else k + 1)) L a w := by
    intro m
    induction m with
    | zero =>
      intro U L a w hm W
      have hU : U = [] := List.eq_nil_of_length_eq_zero (by split at hm <;> omega)
      subst hU
      cases hLf : L.getD f false
      · rw [hLf] at hm; simp at hm
      · have hall : ∀ j, hd hs j = true → L.getD j false = true := fun j hj => by
          have := (W.un j hj)
          cases e : L.getD j false
          · rw [e] at this; exact absurd (this.1 rfl) (by simp)
          · rfl
        have hL : L = firstsH ops.size (f :: hs) := by
          apply Array.ext
          · simp [firstsH, W.size]
          · intro i h1 h2
            have e1 : L[i] = L.getD i false := by simp [Array.getD, h1]
            rw [e1]
            simp only [firstsH, List.getElem_toArray, List.getElem_map, List.getElem_range]
            have e2 : hd (f :: hs) i = (Nat.beq f i || hd hs i) := by simp [hd]
            rw [e2]
            cases q : hd hs i
            · by_cases e : f = i
              · subst e; rw [hLf]; simp
              · rw [W.tail i q (fun h => e h.symm)]
                have : Nat.beq f i = false := by
                  cases e3 : Nat.beq f i
                  · rfl
                  · exact absurd (Nat.eq_of_beq_eq_true e3) e
                rw [this]; rfl
            · rw [hall i q]; simp
        obtain ⟨b, m1, m2, m3⟩ := W.made hLf
        have := hend2 a w b ⟨W.ok, W.gr, W.old, fun j hj => W.js j hj (hall j hj)⟩ m1 m2 m3
        rw [← hL] at this
        simpa using this
    | succ m ih =>
      intro U L a w hm W
      by_cases hUn : U = []
      · subst hUn
        cases hLf : L.getD f false
        · have hall : ∀ j, hd hs j = true → L.getD j false = true := fun j hj => by
            have := (W.un j hj)
            cases e : L.getD j false
            · rw [e] at this; exact absurd (this.1 rfl) (by simp)
            · rfl
          have hL : L = firstsH ops.size hs := by
            apply Array.ext
            · simp [firstsH, W.size]
            · intro i h1 h2
              have e1 : L[i] = L.getD i false := by simp [Array.getD, h1]
              rw [e1]
              simp only [firstsH, List.getElem_toArray, List.getElem_map, List.getElem_range]
              cases q : hd hs i
              · by_cases e : i = f
                · subst e; exact hLf
                · exact W.tail i q e
              · exact hall i q
          have := (hend a w ⟨W.ok, W.gr, W.old, fun j hj => W.js j hj (hall j hj)⟩).1
          rw [← hL] at this
          simpa using this
        · rw [hLf] at hm; simp at hm
      · have hpos : 0 < U.length := by cases U with
          | nil => exact absurd rfl hUn
          | cons _ _ => simp
        have hfuel : U.length + (if L.getD f false = true then k else k + 1) = (U.length - 1 + (if L.getD f false = true then k else k + 1)) + 1 := by omega
        rw [hfuel]
        have hne : Region.ready .any ops L ≠ [] := by
          obtain ⟨u, hu⟩ : ∃ u, u ∈ U := List.exists_mem_of_length_pos hpos
          have hlu := W.lt u hu
          have hex : ∃ k, hd hs k = true ∧ L.getD k false = false := ⟨u, hlu, (W.un u hlu).2 hu⟩
          obtain ⟨k, ⟨hk1, hk2⟩, hk3⟩ := exists_least hex
          obtain ⟨o, ho, -, hcl⟩ := hdd0 k hk1
          have hki : k < L.size := by rw [W.size]; exact (Array.getElem?_eq_some_iff.1 ho).1
          have : k ∈ Region.ready .any ops L := by
            rw [mem_ready]
            refine ⟨by rw [getD_lt hki true false]; exact hk2, o, ho, fun e he hbd => ?_⟩
            have hlt := hb k o ho e he hbd
            cases q : L.getD e.on false
            · have := hk3 e.on ⟨hcl e he hbd, q⟩; omega
            · rfl
          intro e
          rw [e] at this
          cases this
        refine ⟨fun h => absurd h hne, fun i hi => ?_⟩
        obtain ⟨hil, o, ho, hall⟩ := mem_ready.1 hi
        have his : i < ops.size := (Array.getElem?_eq_some_iff.1 ho).1
        have hiL : i < L.size := by rw [W.size]; exact his
        have hil' : L.getD i false = false := by rw [getD_lt hiL false true]; exact hil
        by_cases hif : i = f
        · -- the block is made
          subst hif
          obtain rfl : o = of := Option.some.inj (ho.symm.trans hof)
          have hdN : Nat.blt (dstAt ops i) N = true := List.all_eq_true.1 hN i (List.mem_cons_self ..)
          have nx := Nx.put W.ok hdN (.pointer (some ⟨w.heap.size, 0, none⟩))
          have nw := New.mk' w z ty
          unfold wpOp
          rw [ho]
          have hw : Region.wanted o (yielded ops a.tmps) = true := by unfold Region.wanted; rw [hofg]
          simp only [hw, if_true]
          left
          unfold Oper.wp
          rw [hrun o a w ho]
          show wpAny P .any ops Q _ _ (a.put o.dst _) _
          rw [hofd]
          have hset : (L.setIfInBounds i true).getD i false = true := by rw [getD_set hiL, if_pos rfl]
          have hih := ih U (L.setIfInBounds i true) (a.put (some (dstAt ops i)) (.pointer (some ⟨w.heap.size, 0, none⟩))) (w.alloc (.cells z ty)) (by rw [hset]; rw [hil'] at hm; simp at hm ⊢; omega) ?_
          · rw [hset, if_pos rfl] at hih
            rw [hil']
            simp only [Bool.false_eq_true, if_false]
            rw [show U.length - 1 + (k + 1) = U.length + k by omega]
            exact hih
          · refine ⟨nx.ok, W.gr.trans nw.gr, fun t htt => ?_, by simp [W.size], ?_, W.nodup, fun j hj => ?_, W.lt, fun j hj hjf => ?_, fun _ => ⟨w.heap.size, nx.at_, W.gr.size, nw.bk⟩, fun j hj hl => ?_⟩
            · have := List.all_eq_true.1 htt _ (fd_cons ho (.inr rfl) hofd)
              rw [Bool.not_eq_true'] at this
              exact (nx.oth t this).trans (W.old t htt)
            · intro j oj hj hoj e he hbd
              rw [getD_set hiL] at hj ⊢
              split
              · rfl
              · by_cases q : i = j
                · subst q
                  obtain rfl : o = oj := Option.some.inj (ho.symm.trans hoj)
                  rw [hofa e he] at hbd; cases hbd
                · rw [if_neg q] at hj
                  exact W.closed j oj hj hoj e he hbd
            · rw [getD_set hiL, if_neg (fun e => by subst e; rw [hff] at hj; cases hj)]
              exact W.un j hj
            · rw [getD_set hiL, if_neg (fun e => hjf e.symm)]
              exact W.tail j hj hjf
            · rw [getD_set hiL, if_neg (fun e => by subst e; rw [hff] at hj; cases hj)] at hl
              rw [nx.oth _ (by
                have := hdf j hj
                cases e : Nat.beq (dstAt ops j) (dstAt ops i)
                · rfl
                · exact absurd (Nat.eq_of_beq_eq_true e) this)]
              exact R.mono j _ _ _ nw.gr (W.js j hj hl)
        · have him : hd hs i = true := by
            cases q : hd hs i
            · exfalso
              obtain ⟨u, hu⟩ : ∃ u, u ∈ U := List.exists_mem_of_length_pos hpos
              have hlu := W.lt u hu
              have h1 := reach_listed W.closed ops.size i u (fun o' ho' e he hbd => by
                obtain rfl : o = o' := Option.some.inj (ho.symm.trans ho')
                exact hall e he hbd) (ht i his q hif u hlu)
              rw [(W.un u hlu).2 hu] at h1
              cases h1
            · rfl
          have hiU : i ∈ U := (W.un i him).1 hil'
          obtain ⟨o', ho', hdst, hcl⟩ := hdd0 i him
          obtain rfl : o = o' := Option.some.inj (ho.symm.trans ho')
          have him' : hd (f :: hs) i = true := hd_mem.2 (List.mem_cons_of_mem _ (hd_mem.1 him))
          have hpre : PreH ops (f :: hs) js N a₀ w₀ o a w := ⟨W.ok, W.gr, W.old, fun j hj => ?_⟩
          · have hdoes := R.does i o his him' ho a w hpre
            have hdN : Nat.blt (dstAt ops i) N = true := List.all_eq_true.1 hN i (List.mem_cons_of_mem _ (hd_mem.1 him))
            have next : ∀ v w', Gr w w' → jAt js i v w' → wpAny P .any ops Q (U.length - 1 + (if L.getD f false = true then k else k + 1)) (L.setIfInBounds i true) (a.put o.dst v) w' := by
              intro v w' g hJ
              rw [hdst]
              have nx := Nx.put W.ok hdN v
              have hfl : (L.setIfInBounds i true).getD f false = L.getD f false := by rw [getD_set hiL, if_neg hif]
              have hlen : (U.erase i).length = U.length - 1 := List.length_erase_of_mem hiU
              have hih := ih (U.erase i) (L.setIfInBounds i true) (a.put (some (dstAt ops i)) v) w' (by rw [hfl, hlen]; omega) ?_
              · rw [hfl, hlen] at hih
                exact hih
              · refine ⟨nx.ok, W.gr.trans g, fun t htt => ?_, by simp [W.size], ?_, W.nodup.erase _, ?_, fun j hj => W.lt j (List.mem_of_mem_erase hj), ?_, ?_, ?_⟩
                · have := List.all_eq_true.1 htt _ (fd_cons ho (.inl him) hdst)
                  rw [Bool.not_eq_true'] at this
                  exact (nx.oth t this).trans (W.old t htt)
                · intro k ok hk hok e he hbd
                  rw [getD_set hiL] at hk ⊢
                  split
                  · rfl
                  · by_cases q : i = k
                    · subst q
                      obtain rfl : o = ok := Option.some.inj (ho.symm.trans hok)
                      exact hall e he hbd
                    · rw [if_neg q] at hk
                      exact W.closed k ok hk hok e he hbd
                · intro j hj
                  rw [getD_set hiL, W.nodup.mem_erase_iff]
                  by_cases q : i = j
                  · subst q; simp
                  · rw [if_neg q, W.un j hj]
                    exact ⟨fun h => ⟨fun e => q e.symm, h⟩, fun h => h.2⟩
                · intro j hj hjf
                  rw [getD_set hiL, if_neg (fun e => by subst e; rw [him] at hj; cases hj)]
                  exact W.tail j hj hjf
                · intro hl
                  rw [hfl] at hl
                  obtain ⟨b, m1, m2, m3⟩ := W.made hl
                  refine ⟨b, ?_, m2, m3.gr g⟩
                  rw [nx.oth _ (by
                    have := hdf i him
                    cases e : Nat.beq (dstAt ops f) (dstAt ops i)
                    · rfl
                    · exact absurd (Nat.eq_of_beq_eq_true e).symm this)]
                  exact m1
                · intro j hj hl
                  by_cases q : i = j
                  · subst q
                    rw [nx.at_]
                    exact hJ
                  · rw [getD_set hiL, if_neg q] at hl
                    have h1 := W.js j hj hl
                    rw [nx.oth _ (by
                      have := hdd i j him hj q
                      cases e : Nat.beq (dstAt ops j) (dstAt ops i)
                      · rfl
                      · exact absurd (Nat.eq_of_beq_eq_true e) this)]
                    exact R.mono j _ _ _ g h1
            unfold wpOp
            rw [ho]
            unfold Does at hdoes
            by_cases hw : Region.wanted o (yielded ops a.tmps) = true
            · rw [if_pos hw] at hdoes
              simp only [hw, if_true]
              left
              refine Oper.wp_mono ?_ hdoes
              rintro a' w' ⟨v, rfl, g, hj, -⟩
              exact next v w' g hj
            · rw [if_neg hw] at hdoes
              simp only [hw, if_false, Bool.false_eq_true]
              exact next undef w (Gr.refl w) hdoes.1
          · unfold waits at hj
            obtain ⟨e, he, hh⟩ := List.any_eq_true.1 hj
            have he : e ∈ o.after := by simpa using he
            simp only [Bool.and_eq_true] at hh
            have h2 := Nat.eq_of_beq_eq_true hh.2
            have h3 := hall e he hh.1
            have hjh := hcl e he hh.1
            rw [h2] at h3 hjh
            exact W.js j hjh h3
  exact fun U L a w W => main _ U L a w rfl W
end
structure SF (N : Nat) (ap : Act) (wp w₀ : World) (df d0 d1 : Nat) (v0 v1 : Value) (z : Array Value) (ty : TypeId) (b0 b1 bf : Bool) (a : Act) (w : World) : Prop where
  ok : Ok N a
  old : ∀ t, Nat.beq t d0 = false → Nat.beq t d1 = false → Nat.beq t df = false → a.eval (.tmp t) = ap.eval (.tmp t)
  e0 : b0 = true → a.eval (.tmp d0) = v0
  e1 : b1 = true → a.eval (.tmp d1) = v1
  wn : bf = false → w = wp
  wf : bf = true → Gr wp w ∧ ∃ b, a.eval (.tmp df) = .pointer (some ⟨b, 0, none⟩) ∧ w₀.heap.size ≤ b ∧ Bk w b z ty
section
variable {N : Nat} {ap : Act} {wp w₀ : World} {df d0 d1 : Nat} {v0 v1 : Value} {z : Array Value} {ty : TypeId} {b0 b1 bf : Bool} {a : Act} {w : World}
theorem SF.p0 (h : SF N ap wp w₀ df d0 d1 v0 v1 z ty b0 b1 bf a w) (hN : Nat.blt d0 N = true) (h01 : Nat.beq d1 d0 = false) (h0f : Nat.beq df d0 = false) : SF N ap wp w₀ df d0 d1 v0 v1 z ty true b1 bf (a.put (some d0) v0) w := by
  have nx := Nx.put h.ok hN v0
  exact ⟨nx.ok, fun t q0 q1 qf => (nx.oth t q0).trans (h.old t q0 q1 qf), fun _ => nx.at_, fun q => (nx.oth _ h01).trans (h.e1 q), h.wn, fun q => by
    obtain ⟨g, b, h1, h2, h3⟩ := h.wf q
    exact ⟨g, b, (nx.oth _ h0f).trans h1, h2, h3⟩⟩
theorem SF.p1 (h : SF N ap wp w₀ df d0 d1 v0 v1 z ty b0 b1 bf a w) (hN : Nat.blt d1 N = true) (h01 : Nat.beq d0 d1 = false) (h0f : Nat.beq df d1 = false) : SF N ap wp w₀ df d0 d1 v0 v1 z ty b0 true bf (a.put (some d1) v1) w := by
  have nx := Nx.put h.ok hN v1
  exact ⟨nx.ok, fun t q0 q1 qf => (nx.oth t q1).trans (h.old t q0 q1 qf), fun q => (nx.oth _ h01).trans (h.e0 q), fun _ => nx.at_, h.wn, fun q => by
    obtain ⟨g, b, h1, h2, h3⟩ := h.wf q
    exact ⟨g, b, (nx.oth _ h0f).trans h1, h2, h3⟩⟩
theorem SF.pf (h : SF N ap wp w₀ df d0 d1 v0 v1 z ty b0 b1 false a w) (hw : Gr w₀ wp) (hN : Nat.blt df N = true) (h0 : Nat.beq d0 df = false) (h1 : Nat.beq d1 df = false) : SF N ap wp w₀ df d0 d1 v0 v1 z ty b0 b1 true (a.put (some df) (.pointer (some ⟨w.heap.size, 0, none⟩))) (w.alloc (.cells z ty)) := by
  have nx := Nx.put h.ok hN (.pointer (some ⟨w.heap.size, 0, none⟩))
  have nw := New.mk' w z ty
  have e := h.wn rfl
  exact ⟨nx.ok, fun t q0 q1 qf => (nx.oth t qf).trans (h.old t q0 q1 qf), fun q => (nx.oth _ h0).trans (h.e0 q), fun q => (nx.oth _ h1).trans (h.e1 q), (fun q => by cases q), fun _ => ⟨e ▸ nw.gr, w.heap.size, nx.at_, by rw [e]; exact hw.size, nw.bk⟩⟩
end
section
variable {P : Program} {ops : Array Oper} {Q : Exit → Act → World → Prop} {N : Nat}
theorem w_alloc {i : Nat} {o : Oper} {R : Act → World → Prop} {a : Act} {w w' : World} {d : Nat} {v : Value} (ho : ops[i]? = some o) (hw : Region.wanted o (yielded ops a.tmps) = true) (hd : o.dst = some d)
    (hrun : (execOp a.eval o).run P w = .ok (.value v) w') (h : R (a.put (some d) v) w') : wpOp P ops Q i R a w := by
  unfold wpOp
  rw [ho]
  simp only [hw, if_true]
  refine .inl ?_
  unfold Oper.wp
  rw [hrun]
  show R (a.put o.dst v) w'
  rw [hd]
  exact h
theorem tailF {e0 e1 f j fuel : Nat} {o0 o1 of oj : Oper} {LL : Bool → Bool → Bool → Array Bool} {LJ : Bool → Array Bool} {ap : Act} {wp w₀ : World} {df d0 d1 : Nat} {v0 v1 : Value} {z cs' : Array Value} {ty : TypeId}
    (hr3 : Region.ready .any ops (LL true true true) = [j]) (hr2 : Region.ready .any ops (LL true false true) = [e1, j]) (hr1 : Region.ready .any ops (LL false true true) = [e0]) (hr0 : Region.ready .any ops (LL false false true) = [e0, e1])
    (hq3 : Region.ready .any ops (LL true true false) = [f]) (hq2 : Region.ready .any ops (LL true false false) = [e1, f]) (hq1 : Region.ready .any ops (LL false true false) = [e0, f]) (hq0 : Region.ready .any ops (LL false false false) = [e0, e1, f])
    (hrj : Region.ready .any ops (LJ false) = [e1])
    (hs0 : ∀ b1 bf, (LL false b1 bf).setIfInBounds e0 true = LL true b1 bf) (hs1 : ∀ b0 bf, (LL b0 false bf).setIfInBounds e1 true = LL b0 true bf) (hsf : ∀ b0 b1, (LL b0 b1 false).setIfInBounds f true = LL b0 b1 true) (hsj : ∀ b1, (LL true b1 true).setIfInBounds j true = LJ b1) (hsj1 : (LJ false).setIfInBounds e1 true = LJ true)
    (ho0 : ops[e0]? = some o0) (ho1 : ops[e1]? = some o1) (hof : ops[f]? = some of) (hoj : ops[j]? = some oj) (hd0 : o0.dst = some d0) (hd1 : o1.dst = some d1) (hdf : of.dst = some df) (hdj : oj.dst = none)
    (hw0 : ∀ a : Act, Region.wanted o0 (yielded ops a.tmps) = true) (hw1 : ∀ a : Act, Region.wanted o1 (yielded ops a.tmps) = true) (hwf : ∀ a : Act, Region.wanted of (yielded ops a.tmps) = true) (hwj : ∀ a : Act, Region.wanted oj (yielded ops a.tmps) = true)
    (hN0 : Nat.blt d0 N = true) (hN1 : Nat.blt d1 N = true) (hNf : Nat.blt df N = true) (h10 : Nat.beq d1 d0 = false) (h01 : Nat.beq d0 d1 = false) (hf0 : Nat.beq df d0 = false) (h0f : Nat.beq d0 df = false) (hf1 : Nat.beq df d1 = false) (h1f : Nat.beq d1 df = false)
    (run0 : ∀ (a : Act) (w : World), (∀ t, Nat.beq t d0 = false → Nat.beq t d1 = false → Nat.beq t df = false → a.eval (.tmp t) = ap.eval (.tmp t)) → (execOp a.eval o0).run P w = .ok (.value v0) w)
    (run1 : ∀ (a : Act) (w : World), (∀ t, Nat.beq t d0 = false → Nat.beq t d1 = false → Nat.beq t df = false → a.eval (.tmp t) = ap.eval (.tmp t)) → (execOp a.eval o1).run P w = .ok (.value v1) w)
    (runf : ∀ (a : Act) (w : World), (execOp a.eval of).run P w = .ok (.value (.pointer (some ⟨w.heap.size, 0, none⟩))) (w.alloc (.cells z ty)))
    (runj : ∀ (a : Act) (w : World) (b : Nat), a.eval (.tmp d0) = v0 → a.eval (.tmp df) = .pointer (some ⟨b, 0, none⟩) → Bk w b z ty → (execOp a.eval oj).run P w = .ok .skip (w.setRow b cs'))
    (hgw : Gr w₀ wp)
    (h : ∀ a' wm w' b, Ok N a' → (∀ t, Nat.beq t d0 = false → Nat.beq t d1 = false → Nat.beq t df = false → a'.eval (.tmp t) = ap.eval (.tmp t)) → a'.eval (.tmp d0) = v0 → a'.eval (.tmp d1) = v1 → a'.eval (.tmp df) = .pointer (some ⟨b, 0, none⟩) → w₀.heap.size ≤ b → Gr wp wm → Bk wm b z ty → Upd wm w' b → Bk w' b cs' ty → wpAny P .any ops Q fuel (LJ true) a' w') :
    (∀ a w, SF N ap wp w₀ df d0 d1 v0 v1 z ty false false true a w → wpAny P .any ops Q (fuel + 3) (LL false false true) a w) ∧ (∀ a w, SF N ap wp w₀ df d0 d1 v0 v1 z ty false false false a w → wpAny P .any ops Q (fuel + 4) (LL false false false) a w) := by
  have store : ∀ b1 a w, SF N ap wp w₀ df d0 d1 v0 v1 z ty true b1 true a w → ∀ R : Act → World → Prop, (∀ wm b, a.eval (.tmp df) = .pointer (some ⟨b, 0, none⟩) → w₀.heap.size ≤ b → Gr wp w → Bk w b z ty → Upd w (w.setRow b cs') b → Bk (w.setRow b cs') b cs' ty → wm = w.setRow b cs' → R a wm) → wpOp P ops Q j R a w := by
    intro b1 a w s R hR
    obtain ⟨g, b, h1, h2, h3⟩ := s.wf rfl
    exact w_st hoj (hwj a) hdj (runj a w b (s.e0 rfl) h1 h3) (hR _ b h1 h2 g h3 (upd_row _ _ _) (h3.row _) rfl)
  have n3 : ∀ a w, SF N ap wp w₀ df d0 d1 v0 v1 z ty true true true a w → wpAny P .any ops Q (fuel + 1) (LL true true true) a w := by
    intro a w s
    refine wpAny_all hr3 (by simp) fun i hi => ?_
    obtain rfl : i = j := by simpa using hi
    refine store true a w s _ fun wm b k1 k2 k3 k4 k5 k6 e => ?_
    subst e
    rw [hsj true]
    exact h a w _ b s.ok s.old (s.e0 rfl) (s.e1 rfl) k1 k2 k3 k4 k5 k6
  have n2 : ∀ a w, SF N ap wp w₀ df d0 d1 v0 v1 z ty true false true a w → wpAny P .any ops Q (fuel + 2) (LL true false true) a w := by
    intro a w s
    refine wpAny_all hr2 (by simp) fun i hi => ?_
    rcases List.mem_cons.1 hi with rfl | hi
    · refine w_val ho1 (hw1 _) hd1 (run1 a w s.old) ?_
      rw [hs1 true true]
      exact n3 _ _ (s.p1 hN1 h01 hf1)
    · obtain rfl : i = j := by simpa using hi
      refine store false a w s _ fun wm b k1 k2 k3 k4 k5 k6 e => ?_
      subst e
      rw [hsj false]
      refine wpAny_all hrj (by simp) fun i hi => ?_
      obtain rfl : i = e1 := by simpa using hi
      refine w_val ho1 (hw1 _) hd1 (run1 a _ s.old) ?_
      rw [hsj1]
      have nx := Nx.put s.ok hN1 v1
      exact h _ w _ b nx.ok (fun t q0 q1 qf => (nx.oth t q1).trans (s.old t q0 q1 qf)) ((nx.oth _ h01).trans (s.e0 rfl)) nx.at_ ((nx.oth _ hf1).trans k1) k2 k3 k4 k5 k6
  have n1 : ∀ a w, SF N ap wp w₀ df d0 d1 v0 v1 z ty false true true a w → wpAny P .any ops Q (fuel + 2) (LL false true true) a w := by
    intro a w s
    refine wpAny_all hr1 (by simp) fun i hi => ?_
    obtain rfl : i = e0 := by simpa using hi
    refine w_val ho0 (hw0 _) hd0 (run0 a w s.old) ?_
    rw [hs0 true true]
    exact n3 _ _ (s.p0 hN0 h10 hf0)
  have n0 : ∀ a w, SF N ap wp w₀ df d0 d1 v0 v1 z ty false false true a w → wpAny P .any ops Q (fuel + 3) (LL false false true) a w := by
    intro a w s
    refine wpAny_all hr0 (by simp) fun i hi => ?_
    rcases List.mem_cons.1 hi with rfl | hi
    · refine w_val ho0 (hw0 _) hd0 (run0 a w s.old) ?_
      rw [hs0 false true]
      exact n2 _ _ (s.p0 hN0 h10 hf0)
    · obtain rfl : i = e1 := by simpa using hi
      refine w_val ho1 (hw1 _) hd1 (run1 a w s.old) ?_
      rw [hs1 false true]
      exact n1 _ _ (s.p1 hN1 h01 hf1)
  have q3 : ∀ a w, SF N ap wp w₀ df d0 d1 v0 v1 z ty true true false a w → wpAny P .any ops Q (fuel + 2) (LL true true false) a w := by
    intro a w s
    refine wpAny_all hq3 (by simp) fun i hi => ?_
    obtain rfl : i = f := by simpa using hi
    refine w_alloc hof (hwf _) hdf (runf a w) ?_
    rw [hsf true true]
    exact n3 _ _ (s.pf hgw hNf h0f h1f)
  have q2 : ∀ a w, SF N ap wp w₀ df d0 d1 v0 v1 z ty true false false a w → wpAny P .any ops Q (fuel + 3) (LL true false false) a w := by
    intro a w s
    refine wpAny_all hq2 (by simp) fun i hi => ?_
    rcases List.mem_cons.1 hi with rfl | hi
    · refine w_val ho1 (hw1 _) hd1 (run1 a w s.old) ?_
      rw [hs1 true false]
      exact q3 _ _ (s.p1 hN1 h01 hf1)
    · obtain rfl : i = f := by simpa using hi
      refine w_alloc hof (hwf _) hdf (runf a w) ?_
      rw [hsf true false]
      exact n2 _ _ (s.pf hgw hNf h0f h1f)
  have q1 : ∀ a w, SF N ap wp w₀ df d0 d1 v0 v1 z ty false true false a w → wpAny P .any ops Q (fuel + 3) (LL false true false) a w := by
    intro a w s
    refine wpAny_all hq1 (by simp) fun i hi => ?_
    rcases List.mem_cons.1 hi with rfl | hi
    · refine w_val ho0 (hw0 _) hd0 (run0 a w s.old) ?_
      rw [hs0 true false]
      exact q3 _ _ (s.p0 hN0 h10 hf0)
    · obtain rfl : i = f := by simpa using hi
      refine w_alloc hof (hwf _) hdf (runf a w) ?_
      rw [hsf false true]
      exact n1 _ _ (s.pf hgw hNf h0f h1f)
  refine ⟨n0, ?_⟩
  intro a w s
  refine wpAny_all hq0 (by simp) fun i hi => ?_
  rcases List.mem_cons.1 hi with rfl | hi
  · refine w_val ho0 (hw0 _) hd0 (run0 a w s.old) ?_
    rw [hs0 false false]
    exact q2 _ _ (s.p0 hN0 h10 hf0)
  · rcases List.mem_cons.1 hi with rfl | hi
    · refine w_val ho1 (hw1 _) hd1 (run1 a w s.old) ?_
      rw [hs1 false false]
      exact q1 _ _ (s.p1 hN1 h01 hf1)
    · obtain rfl : i = f := by simpa using hi
      refine w_alloc hof (hwf _) hdf (runf a w) ?_
      rw [hsf false false]
      exact n0 _ _ (s.pf hgw hNf h0f h1f)
theorem RegH.runF {id n k f : Nat} {hs : List Nat} {js : Js} {a : Act} {w : World} {z : Array Value} {ty : TypeId} {L1 L2 : Array Bool} (R : RegH P ops Q N a w.drew (f :: hs) n js) (hn : ops.size = n) (hk : ((List.range n).filter fun i => hd hs i).length + (k + 1) = n)
    (hL1 : firstsH n hs = L1) (hL2 : firstsH n (f :: hs) = L2) (hf : P.follows .mixedOrders = true) (ok : Ok N a) (hsh : shapeF ops hs f = true) (hN : ((f :: hs).all fun i => Nat.blt (dstAt ops i) N) = true)
    (hrun : ∀ (o : Oper) (a : Act) (w : World), ops[f]? = some o → (execOp a.eval o).run P w = .ok (.value (.pointer (some ⟨w.heap.size, 0, none⟩))) (w.alloc (.cells z ty)))
    (h : ∀ a' w', PostF ops hs f js N a w.drew a' w' → wpAny P .any ops Q (k + 1) L1 a' w' ∧ ∀ b, a'.eval (.tmp (dstAt ops f)) = .pointer (some ⟨b, 0, none⟩) → w.drew.heap.size ≤ b → Bk w' b z ty → wpAny P .any ops Q k L2 a' w') : (Code.region id ops true).wp P Q a w := by
  subst hn hL1 hL2
  refine wp_region_any hf ?_
  obtain ⟨hdd0, -, -, hff, -, -⟩ := shapeF_spec hsh
  have hmem : ∀ j, hd hs j = true → j ∈ (List.range ops.size).filter fun i => hd hs i := fun j hj => by
    obtain ⟨o, ho, -⟩ := hdd0 j hj
    exact List.mem_filter.2 ⟨List.mem_range.2 (Array.getElem?_eq_some_iff.1 ho).1, hj⟩
  have h' := R.wayF rfl hsh hN k hrun (fun a' w' p => ⟨(h a' w' p).1, trivial⟩) (fun a' w' b p e1 e2 e3 => (h a' w' p).2 b e1 e2 e3) ((List.range ops.size).filter fun i => hd hs i) (Array.replicate ops.size false) a w.drew
    { ok := ok, gr := Gr.refl _, old := fun _ _ => rfl, size := by simp
      closed := fun i o h => by rw [replicate_getD] at h; cases h
      nodup := List.nodup_range.filter _
      un := fun j hj => by rw [replicate_getD]; simp only [true_iff]; exact hmem j hj
      lt := fun j hj => (List.mem_filter.1 hj).2
      tail := fun j _ _ => replicate_getD _ _
      made := fun h => by rw [replicate_getD] at h; cases h
      js := fun j _ h => by rw [replicate_getD] at h; cases h }
  rw [replicate_getD] at h'
  simp only [Bool.false_eq_true, if_false] at h'
  rw [hk] at h'
  exact h'
end
end Gx
