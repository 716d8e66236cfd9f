/- Joined: GxN, SiH, SiI, OpenB. -/
import Derived.Test.YtglbnggkkjhokaaGreatSb5
import Derived.Laws.Pointers
set_option linter.unusedVariables false
set_option linter.unusedSimpArgs false
set_option maxHeartbeats 8000000
set_option maxRecDepth 100000
/- As GxM: what the call leaves keeps clear of the block that is made meanwhile. -/
namespace Gx
open Go Go.RowKit Rm
section
variable {P : Program} {ops : Array Oper} {Q : Exit → Act → World → Prop} {N : Nat} {a₀ : Act} {w₀ : World} {hs : List Nat} {r : Option Nat} {c : Nat} {Z : Nat → World → Prop}
structure RegN (P : Program) (ops : Array Oper) (Q : Exit → Act → World → Prop) (N : Nat) (a₀ : Act) (w₀ : World) (r : Option Nat) (c : Nat) (Z : Nat → World → Prop) (hs : List Nat) (n : Nat) (js : Js) : Prop where
 back : backs ops = true
 top : ∀ i, n ≤ i → jAt js i = fun _ _ => True
 mono : ∀ i v w w', i ≠ c → w.grownBy w' r → jAt js i v w → jAt js i v w'
 monoC : ∀ v w w', Gr w w' → jAt js c v w → jAt js c v w'
 does : ∀ i o, i < n → hd hs i = true → i ≠ c → ops[i]? = some o → ∀ a w, PreM ops hs js N a₀ w₀ r c i o a w → Does P ops Q (jAt js i) o a w
 doesC : ∀ o, c < n → hd hs c = true → ops[c]? = some o → ∀ a w, PreM ops hs js N a₀ w₀ r c c o a w → DoesC P ops Q r (fun v w' => jAt js c v w' ∧ ∀ b, w₀.heap.size ≤ b → b < w.heap.size → Z b w') o a w
theorem RegN.nil (hb : backs ops = true) : RegN P ops Q N a₀ w₀ r c Z hs 0 [] := ⟨hb, fun _ _ => rfl, fun i v w w' _ _ _ => trivial, fun v w w' _ _ => trivial, fun i o h => absurd h (Nat.not_lt_zero _), fun o h => absurd h (Nat.not_lt_zero _)⟩
theorem RegN.snoc {n n' : Nat} {js : Js} (R : RegN P ops Q N a₀ w₀ r c Z hs n js) (hn : n + 1 = n') (hc : Nat.beq n c = false) (J : Value → World → Prop) {o : Oper} (ho : ops[n]? = some o) (hm : ∀ v w w', w.grownBy w' r → J v w → J v w')
  (h : ∀ a w, PreM ops hs js N a₀ w₀ r c n o a w → Does P ops Q J o a w) : RegN P ops Q N a₀ w₀ r c Z hs n' ((n, J) :: js) where
 back := R.back
 top i hi := by rw [jAt_ne (by omega)]; exact R.top i (by omega)
 mono i v w w' hic g hj := by
  by_cases q : n = i
  ·subst q; rw [jAt_eq] at *; exact hm v w w' g hj
  ·rw [jAt_ne q] at *; exact R.mono i v w w' hic g hj
 monoC v w w' g hj := by
  rw [jAt_ne (Nat.ne_of_beq_eq_false hc)] at *; exact R.monoC v w w' g hj
 does i o' hi hh hic ho' a w p := by
  have p' := prem_drop R.back (by omega) ho' p
  by_cases q : n = i
  ·subst q
   rw [jAt_eq]
   obtain rfl : o = o' := Option.some.inj (ho.symm.trans ho')
   exact h a w p'
  ·rw [jAt_ne q]
   exact R.does i o' (by omega) hh hic ho' a w p'
 doesC o' hi hh ho' a w p := by
  have p' := prem_drop R.back (by omega) ho' p
  have q := Nat.ne_of_beq_eq_false hc
  simp only [jAt_ne q]
  exact R.doesC o' (by omega) hh ho' a w p'
theorem RegN.snocC {n n' : Nat} {js : Js} (R : RegN P ops Q N a₀ w₀ r c Z hs n js) (hn : n + 1 = n') (hc : n = c) (J : Value → World → Prop) {o : Oper} (ho : ops[n]? = some o) (hm : ∀ v w w', Gr w w' → J v w → J v w')
  (h : ∀ a w, PreM ops hs js N a₀ w₀ r c n o a w → DoesC P ops Q r (fun v w' => J v w' ∧ ∀ b, w₀.heap.size ≤ b → b < w.heap.size → Z b w') o a w) : RegN P ops Q N a₀ w₀ r c Z hs n' ((n, J) :: js) where
 back := R.back
 top i hi := by rw [jAt_ne (by omega)]; exact R.top i (by omega)
 mono i v w w' hic g hj := by
  rw [jAt_ne (by omega)] at *; exact R.mono i v w w' hic g hj
 monoC v w w' g hj := by
  subst hc; rw [jAt_eq] at *; exact hm v w w' g hj
 does i o' hi hh hic ho' a w p := by
  have p' := prem_drop R.back (by omega) ho' p
  rw [jAt_ne (by omega)]
  exact R.does i o' (by omega) hh hic ho' a w p'
 doesC o' hi hh ho' a w p := by
  have p' := prem_drop R.back (by omega) ho' p
  subst hc
  simp only [jAt_eq]
  obtain rfl : o = o' := Option.some.inj (ho.symm.trans ho')
  exact h a w p'
theorem RegN.skip {n n' : Nat} {js : Js} (R : RegN P ops Q N a₀ w₀ r c Z hs n js) (hn : n + 1 = n') (hc : Nat.beq n c = false) (hh : hd hs n = false) : RegN P ops Q N a₀ w₀ r c Z hs n' js where
 back := R.back
 top i hi := R.top i (by omega)
 mono := R.mono
 monoC := R.monoC
 does i o' hi hh' hic ho' a w p := by
  by_cases q : n = i
  ·subst q; rw [hh] at hh'; cases hh'
  ·exact R.does i o' (by omega) hh' hic ho' a w p
 doesC o' hi hh' ho' a w p := R.doesC o' (by have := Nat.ne_of_beq_eq_false hc; omega) hh' ho' a w p
theorem regn_start {id : Nat} {a : Act} {w : World} (hs : List Nat) (r : Option Nat) (c : Nat) (Z : Nat → World → Prop) (hb : backs ops = true) (h : RegN P ops Q N a w.drew r c Z hs 0 [] → (Code.region id ops true).wp P Q a w) : (Code.region id ops true).wp P Q a w := h (RegN.nil hb)
structure WayN (Z : Nat → World → Prop) (ops : Array Oper) (hs : List Nat) (r : Option Nat) (c f : Nat) (z : Array Value) (ty : TypeId) (js : Js) (N : Nat) (a₀ : Act) (w₀ : World) (U : List Nat) (L : Array Bool) (a : Act) (w : World) : Prop where
 ok : Ok N a
 gr : w₀.grownBy w r
 gr0 : L.getD c false = false → Gr w₀ w
 old : ∀ t, (fdH ops (f :: hs)).all (fun d => !Nat.beq t d) = true → a.eval (.tmp t) = a₀.eval (.tmp t)
 size : L.size = ops.size
 closed : Closed ops L
 nodup : U.Nodup
 un : ∀ j, hd hs j = true → (L.getD j false = false ↔ j ∈ U)
 lt : ∀ j ∈ U, hd hs j = true
 tail : ∀ j, hd hs j = false → j ≠ f → L.getD j false = false
 made : L.getD f false = true → ∃ b, a.eval (.tmp (dstAt ops f)) = .pointer (some ⟨b, 0, none⟩) ∧ w₀.heap.size ≤ b ∧ Bk w b z ty ∧ (L.getD c false = true → Z b w)
 js : ∀ j, hd hs j = true → L.getD j false = true → jAt js j (a.eval (.tmp (dstAt ops j))) w
theorem RegN.wayN {n : Nat} {js : Js} {f : Nat} {z : Array Value} {ty : TypeId} (R : RegN P ops Q N a₀ w₀ r c Z (f :: hs) n js) (hr : ∀ k, r = some k → k < w₀.heap.size) (hfc : Nat.beq f c = false) (hcs : hd hs c = true) (hZ : ∀ b w w', Gr w w' → Z b w → Z b w') (hZ1 : ∀ v w, jAt js c v w → Z w.heap.size (w.alloc (.cells z ty))) (hn0 : n = ops.size) (hsh : shapeF ops hs f = true) (hN : ((f :: hs).all fun i => Nat.blt (dstAt ops i) N) = true) (k : Nat)
  (hrun : ∀ (o : Oper) (a : Act) (w : World), ops[f]? = some o → (execOp a.eval o).run P w = .ok (.value (.pointer (some ⟨w.heap.size, 0, none⟩))) (w.alloc (.cells z ty)))
  (hend : ∀ a w, PostM ops hs r f js N a₀ w₀ a w → wpAny P .any ops Q (k + 1) (firstsH ops.size hs) a w ∧ True)
  (hend2 : ∀ a w b, PostM ops hs r f js N a₀ w₀ a w → a.eval (.tmp (dstAt ops f)) = .pointer (some ⟨b, 0, none⟩) → w₀.heap.size ≤ b → Bk w b z ty → Z b w → wpAny P .any ops Q k (firstsH ops.size (f :: hs)) a w) :
  ∀ (U : List Nat) (L : Array Bool) (a : Act) (w : World), WayN Z ops hs r c f z ty js N a₀ w₀ U L a w → wpAny P .any ops Q (U.length + (if L.getD f false = true then k else k + 1)) L a w := by
 obtain ⟨hdd0, hdd, hdf, hff, ⟨of, hof, hofd, hofg, hofa⟩, ht⟩ := shapeF_spec hsh
 subst hn0
 have hb := backs_spec R.back
 have hfs : f < ops.size := (Array.getElem?_eq_some_iff.1 hof).1
 have main : ∀ m U L a w, U.length + (if L.getD f false = true then 0 else 1) = m → WayN Z ops hs r c f z ty js N a₀ w₀ U L a w → wpAny P .any ops Q (U.length + (if L.getD f false = true then k else k + 1)) L a w := by
  intro m
  induction m with
  | zero =>
   intro U L a w hm W
   have hU : U = [] := List.eq_nil_of_length_eq_zero (by split at hm <;> omega)
   subst hU
   cases hLf : L.getD f false
   ·rw [hLf] at hm; simp at hm
   ·have hall : ∀ j, hd hs j = true → L.getD j false = true := fun j hj => by
     have := (W.un j hj)
     cases e : L.getD j false
     ·rw [e] at this; exact absurd (this.1 rfl) (by simp)
     ·rfl
    have hL : L = firstsH ops.size (f :: hs) := by
     apply Array.ext
     ·simp [firstsH, W.size]
     ·intro i h1 h2
      have e1 : L[i] = L.getD i false := by simp [Array.getD, h1]
      rw [e1]
      simp only [firstsH, List.getElem_toArray, List.getElem_map, List.getElem_range]
      have e2 : hd (f :: hs) i = (Nat.beq f i || hd hs i) := by simp [hd]
      rw [e2]
      cases q : hd hs i
      ·by_cases e : f = i
       ·subst e; rw [hLf]; simp
       ·rw [W.tail i q (fun h => e h.symm)]
        have : Nat.beq f i = false := by
         cases e3 : Nat.beq f i
         ·rfl
         ·exact absurd (Nat.eq_of_beq_eq_true e3) e
        rw [this]; rfl
      ·rw [hall i q]; simp
    obtain ⟨b, m1, m2, m3, m4⟩ := W.made hLf
    have := hend2 a w b ⟨W.ok, W.gr, W.old, fun j hj => W.js j hj (hall j hj)⟩ m1 m2 m3 (m4 (hall c hcs))
    rw [← hL] at this
    simpa using this
  | succ m ih =>
   intro U L a w hm W
   by_cases hUn : U = []
   ·subst hUn
    cases hLf : L.getD f false
    ·have hall : ∀ j, hd hs j = true → L.getD j false = true := fun j hj => by
      have := (W.un j hj)
      cases e : L.getD j false
      ·rw [e] at this; exact absurd (this.1 rfl) (by simp)
      ·rfl
     have hL : L = firstsH ops.size hs := by
      apply Array.ext
      ·simp [firstsH, W.size]
      ·intro i h1 h2
       have e1 : L[i] = L.getD i false := by simp [Array.getD, h1]
       rw [e1]
       simp only [firstsH, List.getElem_toArray, List.getElem_map, List.getElem_range]
       cases q : hd hs i
       ·by_cases e : i = f
        ·subst e; exact hLf
        ·exact W.tail i q e
       ·exact hall i q
     have := (hend a w ⟨W.ok, W.gr, W.old, fun j hj => W.js j hj (hall j hj)⟩).1
     rw [← hL] at this
     simpa using this
    ·rw [hLf] at hm; simp at hm
   ·have hpos : 0 < U.length := by cases U with
     | nil => exact absurd rfl hUn
     | cons _ _ => simp
    have hfuel : U.length + (if L.getD f false = true then k else k + 1) = (U.length - 1 + (if L.getD f false = true then k else k + 1)) + 1 := by omega
    rw [hfuel]
    have hne : Region.ready .any ops L ≠ [] := by
     obtain ⟨u, hu⟩ : ∃ u, u ∈ U := List.exists_mem_of_length_pos hpos
     have hlu := W.lt u hu
     have hex : ∃ k, hd hs k = true ∧ L.getD k false = false := ⟨u, hlu, (W.un u hlu).2 hu⟩
     obtain ⟨k, ⟨hk1, hk2⟩, hk3⟩ := exists_least hex
     obtain ⟨o, ho, -, hcl⟩ := hdd0 k hk1
     have hki : k < L.size := by rw [W.size]; exact (Array.getElem?_eq_some_iff.1 ho).1
     have : k ∈ Region.ready .any ops L := by
      rw [mem_ready]
      refine ⟨by rw [getD_lt hki true false]; exact hk2, o, ho, fun e he hbd => ?_⟩
      have hlt := hb k o ho e he hbd
      cases q : L.getD e.on false
      ·have := hk3 e.on ⟨hcl e he hbd, q⟩; omega
      ·rfl
     intro e
     rw [e] at this
     cases this
    refine ⟨fun h => absurd h hne, fun i hi => ?_⟩
    obtain ⟨hil, o, ho, hall⟩ := mem_ready.1 hi
    have his : i < ops.size := (Array.getElem?_eq_some_iff.1 ho).1
    have hiL : i < L.size := by rw [W.size]; exact his
    have hil' : L.getD i false = false := by rw [getD_lt hiL false true]; exact hil
    by_cases hif : i = f
    ·-- the block is made
     subst hif
     obtain rfl : o = of := Option.some.inj (ho.symm.trans hof)
     have hdN : Nat.blt (dstAt ops i) N = true := List.all_eq_true.1 hN i (List.mem_cons_self ..)
     have nx := Nx.put W.ok hdN (.pointer (some ⟨w.heap.size, 0, none⟩))
     have nw := New.mk' w z ty
     unfold wpOp
     rw [ho]
     have hw : Region.wanted o (yielded ops a.tmps) = true := by unfold Region.wanted; rw [hofg]
     simp only [hw, if_true]
     left
     unfold Oper.wp
     rw [hrun o a w ho]
     show wpAny P .any ops Q _ _ (a.put o.dst _) _
     rw [hofd]
     have hset : (L.setIfInBounds i true).getD i false = true := by rw [getD_set hiL, if_pos rfl]
     have hih := ih U (L.setIfInBounds i true) (a.put (some (dstAt ops i)) (.pointer (some ⟨w.heap.size, 0, none⟩))) (w.alloc (.cells z ty)) (by rw [hset]; rw [hil'] at hm; simp at hm ⊢; omega) ?_
     ·rw [hset, if_pos rfl] at hih
      rw [hil']
      simp only [Bool.false_eq_true, if_false]
      rw [show U.length - 1 + (k + 1) = U.length + k by omega]
      exact hih
     ·refine ⟨nx.ok, gb_gr W.gr nw.gr, fun hcl => (W.gr0 (by rw [getD_set hiL, if_neg (Nat.ne_of_beq_eq_false hfc)] at hcl; exact hcl)).trans nw.gr, fun t htt => ?_, by simp [W.size], ?_, W.nodup, fun j hj => ?_, W.lt, fun j hj hjf => ?_, fun _ => ⟨w.heap.size, nx.at_, W.gr.size, nw.bk, fun hcl => hZ1 _ _ (W.js c hcs (by rw [getD_set hiL, if_neg (Nat.ne_of_beq_eq_false hfc)] at hcl; exact hcl))⟩, fun j hj hl => ?_⟩
      ·have := List.all_eq_true.1 htt _ (fd_cons ho (.inr rfl) hofd)
       rw [Bool.not_eq_true'] at this
       exact (nx.oth t this).trans (W.old t htt)
      ·intro j oj hj hoj e he hbd
       rw [getD_set hiL] at hj ⊢
       split
       ·rfl
       ·by_cases q : i = j
        ·subst q
         obtain rfl : o = oj := Option.some.inj (ho.symm.trans hoj)
         rw [hofa e he] at hbd; cases hbd
        ·rw [if_neg q] at hj
         exact W.closed j oj hj hoj e he hbd
      ·rw [getD_set hiL, if_neg (fun e => by subst e; rw [hff] at hj; cases hj)]
       exact W.un j hj
      ·rw [getD_set hiL, if_neg (fun e => hjf e.symm)]
       exact W.tail j hj hjf
      ·rw [getD_set hiL, if_neg (fun e => by subst e; rw [hff] at hj; cases hj)] at hl
       rw [nx.oth _ (by
        have := hdf j hj
        cases e : Nat.beq (dstAt ops j) (dstAt ops i)
        ·rfl
        ·exact absurd (Nat.eq_of_beq_eq_true e) this)]
       (by_cases qc : j = c)
       ·subst qc; exact R.monoC _ _ _ nw.gr (W.js j hj hl)
       ·exact R.mono j _ _ _ qc (gb_of nw.gr) (W.js j hj hl)
    ·have him : hd hs i = true := by
      cases q : hd hs i
      ·exfalso
       obtain ⟨u, hu⟩ : ∃ u, u ∈ U := List.exists_mem_of_length_pos hpos
       have hlu := W.lt u hu
       have h1 := reach_listed W.closed ops.size i u (fun o' ho' e he hbd => by
        obtain rfl : o = o' := Option.some.inj (ho.symm.trans ho')
        exact hall e he hbd) (ht i his q hif u hlu)
       rw [(W.un u hlu).2 hu] at h1
       cases h1
      ·rfl
     have hiU : i ∈ U := (W.un i him).1 hil'
     obtain ⟨o', ho', hdst, hcl⟩ := hdd0 i him
     obtain rfl : o = o' := Option.some.inj (ho.symm.trans ho')
     have him' : hd (f :: hs) i = true := hd_mem.2 (List.mem_cons_of_mem _ (hd_mem.1 him))
     have hpre : PreM ops (f :: hs) js N a₀ w₀ r c i o a w := ⟨W.ok, W.gr, fun e => W.gr0 (by rw [← e]; exact hil'), W.old, fun j hj => ?_⟩
     ·have hdN : Nat.blt (dstAt ops i) N = true := List.all_eq_true.1 hN i (List.mem_cons_of_mem _ (hd_mem.1 him))
      have next : ∀ v w', w.grownBy w' r → (i ≠ c → Gr w w') → (i = c → ∀ b, w₀.heap.size ≤ b → b < w.heap.size → Z b w') → jAt js i v w' → wpAny P .any ops Q (U.length - 1 + (if L.getD f false = true then k else k + 1)) (L.setIfInBounds i true) (a.put o.dst v) w' := by
       intro v w' g gN hZn hJ
       rw [hdst]
       have nx := Nx.put W.ok hdN v
       have hfl : (L.setIfInBounds i true).getD f false = L.getD f false := by rw [getD_set hiL, if_neg hif]
       have hlen : (U.erase i).length = U.length - 1 := List.length_erase_of_mem hiU
       have hih := ih (U.erase i) (L.setIfInBounds i true) (a.put (some (dstAt ops i)) v) w' (by rw [hfl, hlen]; omega) ?_
       ·rw [hfl, hlen] at hih
        exact hih
       ·refine ⟨nx.ok, gb_gb W.gr g, fun hcl => (by
         rw [getD_set hiL] at hcl
         by_cases q : i = c
         ·rw [if_pos q] at hcl; cases hcl
         ·rw [if_neg q] at hcl
          exact (W.gr0 hcl).trans (gN q)), fun t htt => ?_, by simp [W.size], ?_, W.nodup.erase _, ?_, fun j hj => W.lt j (List.mem_of_mem_erase hj), ?_, ?_, ?_⟩
        ·have := List.all_eq_true.1 htt _ (fd_cons ho (.inl him) hdst)
         rw [Bool.not_eq_true'] at this
         exact (nx.oth t this).trans (W.old t htt)
        ·intro k ok hk hok e he hbd
         rw [getD_set hiL] at hk ⊢
         split
         ·rfl
         ·by_cases q : i = k
          ·subst q
           obtain rfl : o = ok := Option.some.inj (ho.symm.trans hok)
           exact hall e he hbd
          ·rw [if_neg q] at hk
           exact W.closed k ok hk hok e he hbd
        ·intro j hj
         rw [getD_set hiL, W.nodup.mem_erase_iff]
         by_cases q : i = j
         ·subst q; simp
         ·rw [if_neg q, W.un j hj]
          exact ⟨fun h => ⟨fun e => q e.symm, h⟩, fun h => h.2⟩
        ·intro j hj hjf
         rw [getD_set hiL, if_neg (fun e => by subst e; rw [him] at hj; cases hj)]
         exact W.tail j hj hjf
        ·intro hl
         rw [hfl] at hl
         obtain ⟨b, m1, m2, m3, m4⟩ := W.made hl
         refine ⟨b, ?_, m2, m3.grown_ne g (fun k e => Nat.lt_of_lt_of_le (hr k e) m2), fun hcl => by
          by_cases q : i = c
          ·exact hZn q b m2 m3.lt
          ·rw [getD_set hiL, if_neg q] at hcl
           exact hZ _ _ _ (gN q) (m4 hcl)⟩
         rw [nx.oth _ (by
          have := hdf i him
          cases e : Nat.beq (dstAt ops f) (dstAt ops i)
          ·rfl
          ·exact absurd (Nat.eq_of_beq_eq_true e).symm this)]
         exact m1
        ·intro j hj hl
         by_cases q : i = j
         ·subst q
          rw [nx.at_]
          exact hJ
         ·rw [getD_set hiL, if_neg q] at hl
          have h1 := W.js j hj hl
          rw [nx.oth _ (by
           have := hdd i j him hj q
           cases e : Nat.beq (dstAt ops j) (dstAt ops i)
           ·rfl
           ·exact absurd (Nat.eq_of_beq_eq_true e) this)]
          (by_cases qc : j = c)
          ·subst qc; exact R.monoC _ _ _ (gN q) h1
          ·exact R.mono j _ _ _ qc g h1
      unfold wpOp
      rw [ho]
      by_cases qc : i = c
      ·have hdoes : DoesC P ops Q r (fun v w' => jAt js i v w' ∧ ∀ b, w₀.heap.size ≤ b → b < w.heap.size → Z b w') o a w := by
        subst qc
        exact R.doesC o his him' ho a w hpre
       unfold DoesC at hdoes
       obtain ⟨-, hdoes⟩ := hdoes
       by_cases hw : Region.wanted o (yielded ops a.tmps) = true
       ·rw [if_pos hw] at hdoes
        simp only [hw, if_true]
        left
        refine Oper.wp_mono ?_ hdoes
        rintro a' w' ⟨v, rfl, g, hj⟩
        exact next v w' g (fun e => absurd qc e) (fun _ => hj.2) hj.1
       ·rw [if_neg hw] at hdoes
        simp only [hw, if_false, Bool.false_eq_true]
        exact next undef w gb_self (fun _ => Gr.refl w) (fun _ => hdoes.2) hdoes.1
      ·have hdoes := R.does i o his him' qc ho a w hpre
       unfold Does at hdoes
       by_cases hw : Region.wanted o (yielded ops a.tmps) = true
       ·rw [if_pos hw] at hdoes
        simp only [hw, if_true]
        left
        refine Oper.wp_mono ?_ hdoes
        rintro a' w' ⟨v, rfl, g, hj, -⟩
        exact next v w' (gb_of g) (fun _ => g) (fun e => absurd e qc) hj
       ·rw [if_neg hw] at hdoes
        simp only [hw, if_false, Bool.false_eq_true]
        exact next undef w gb_self (fun _ => Gr.refl w) (fun e => absurd e qc) hdoes.1
     ·unfold waits at hj
      obtain ⟨e, he, hh⟩ := List.any_eq_true.1 hj
      have he : e ∈ o.after := by simpa using he
      simp only [Bool.and_eq_true] at hh
      have h2 := Nat.eq_of_beq_eq_true hh.2
      have h3 := hall e he hh.1
      have hjh := hcl e he hh.1
      rw [h2] at h3 hjh
      exact W.js j hjh h3
 exact fun U L a w W => main _ U L a w rfl W
end
structure SN (N : Nat) (ap : Act) (wp w₀ : World) (df d0 d1 : Nat) (v0 v1 : Value) (z : Array Value) (ty : TypeId) (Y : Nat → Prop) (b0 b1 bf : Bool) (a : Act) (w : World) : Prop where
 ok : Ok N a
 old : ∀ t, Nat.beq t d0 = false → Nat.beq t d1 = false → Nat.beq t df = false → a.eval (.tmp t) = ap.eval (.tmp t)
 e0 : b0 = true → a.eval (.tmp d0) = v0
 e1 : b1 = true → a.eval (.tmp d1) = v1
 wn : bf = false → w = wp
 wf : bf = true → Gr wp w ∧ ∃ b, a.eval (.tmp df) = .pointer (some ⟨b, 0, none⟩) ∧ (w₀.heap.size ≤ b ∧ Y b) ∧ Bk w b z ty
section
variable {N : Nat} {ap : Act} {wp w₀ : World} {df d0 d1 : Nat} {v0 v1 : Value} {z : Array Value} {ty : TypeId} {Y : Nat → Prop} {b0 b1 bf : Bool} {a : Act} {w : World}
theorem SN.p0 (h : SN N ap wp w₀ df d0 d1 v0 v1 z ty Y b0 b1 bf a w) (hN : Nat.blt d0 N = true) (h01 : Nat.beq d1 d0 = false) (h0f : Nat.beq df d0 = false) : SN N ap wp w₀ df d0 d1 v0 v1 z ty Y true b1 bf (a.put (some d0) v0) w := by
 have nx := Nx.put h.ok hN v0
 exact ⟨nx.ok, fun t q0 q1 qf => (nx.oth t q0).trans (h.old t q0 q1 qf), fun _ => nx.at_, fun q => (nx.oth _ h01).trans (h.e1 q), h.wn, fun q => by
  obtain ⟨g, b, h1, h2, h3⟩ := h.wf q
  exact ⟨g, b, (nx.oth _ h0f).trans h1, h2, h3⟩⟩
theorem SN.p1 (h : SN N ap wp w₀ df d0 d1 v0 v1 z ty Y b0 b1 bf a w) (hN : Nat.blt d1 N = true) (h01 : Nat.beq d0 d1 = false) (h0f : Nat.beq df d1 = false) : SN N ap wp w₀ df d0 d1 v0 v1 z ty Y b0 true bf (a.put (some d1) v1) w := by
 have nx := Nx.put h.ok hN v1
 exact ⟨nx.ok, fun t q0 q1 qf => (nx.oth t q1).trans (h.old t q0 q1 qf), fun q => (nx.oth _ h01).trans (h.e0 q), fun _ => nx.at_, h.wn, fun q => by
  obtain ⟨g, b, h1, h2, h3⟩ := h.wf q
  exact ⟨g, b, (nx.oth _ h0f).trans h1, h2, h3⟩⟩
theorem SN.pf (h : SN N ap wp w₀ df d0 d1 v0 v1 z ty Y b0 b1 false a w) (hw : w₀.heap.size ≤ wp.heap.size) (hY : Y wp.heap.size) (hN : Nat.blt df N = true) (h0 : Nat.beq d0 df = false) (h1 : Nat.beq d1 df = false) : SN N ap wp w₀ df d0 d1 v0 v1 z ty Y b0 b1 true (a.put (some df) (.pointer (some ⟨w.heap.size, 0, none⟩))) (w.alloc (.cells z ty)) := by
 have nx := Nx.put h.ok hN (.pointer (some ⟨w.heap.size, 0, none⟩))
 have nw := New.mk' w z ty
 have e := h.wn rfl
 exact ⟨nx.ok, fun t q0 q1 qf => (nx.oth t qf).trans (h.old t q0 q1 qf), fun q => (nx.oth _ h0).trans (h.e0 q), fun q => (nx.oth _ h1).trans (h.e1 q), (fun q => by cases q), fun _ => ⟨e ▸ nw.gr, w.heap.size, nx.at_, by rw [e]; exact ⟨hw, hY⟩, nw.bk⟩⟩
end
section
variable {P : Program} {ops : Array Oper} {Q : Exit → Act → World → Prop} {N : Nat} {Z : Nat → World → Prop}
theorem tailN {e0 e1 f j fuel : Nat} {o0 o1 of oj : Oper} {LL : Bool → Bool → Bool → Array Bool} {LJ : Bool → Array Bool} {ap : Act} {wp w₀ : World} {df d0 d1 : Nat} {v0 v1 : Value} {z cs' : Array Value} {ty : TypeId} {Y : Nat → Prop}
  (hr3 : Region.ready .any ops (LL true true true) = [j]) (hr2 : Region.ready .any ops (LL true false true) = [e1, j]) (hr1 : Region.ready .any ops (LL false true true) = [e0]) (hr0 : Region.ready .any ops (LL false false true) = [e0, e1])
  (hq3 : Region.ready .any ops (LL true true false) = [f]) (hq2 : Region.ready .any ops (LL true false false) = [e1, f]) (hq1 : Region.ready .any ops (LL false true false) = [e0, f]) (hq0 : Region.ready .any ops (LL false false false) = [e0, e1, f])
  (hrj : Region.ready .any ops (LJ false) = [e1])
  (hs0 : ∀ b1 bf, (LL false b1 bf).setIfInBounds e0 true = LL true b1 bf) (hs1 : ∀ b0 bf, (LL b0 false bf).setIfInBounds e1 true = LL b0 true bf) (hsf : ∀ b0 b1, (LL b0 b1 false).setIfInBounds f true = LL b0 b1 true) (hsj : ∀ b1, (LL true b1 true).setIfInBounds j true = LJ b1) (hsj1 : (LJ false).setIfInBounds e1 true = LJ true)
  (ho0 : ops[e0]? = some o0) (ho1 : ops[e1]? = some o1) (hof : ops[f]? = some of) (hoj : ops[j]? = some oj) (hd0 : o0.dst = some d0) (hd1 : o1.dst = some d1) (hdf : of.dst = some df) (hdj : oj.dst = none)
  (hw0 : ∀ a : Act, Region.wanted o0 (yielded ops a.tmps) = true) (hw1 : ∀ a : Act, Region.wanted o1 (yielded ops a.tmps) = true) (hwf : ∀ a : Act, Region.wanted of (yielded ops a.tmps) = true) (hwj : ∀ a : Act, Region.wanted oj (yielded ops a.tmps) = true)
  (hN0 : Nat.blt d0 N = true) (hN1 : Nat.blt d1 N = true) (hNf : Nat.blt df N = true) (h10 : Nat.beq d1 d0 = false) (h01 : Nat.beq d0 d1 = false) (hf0 : Nat.beq df d0 = false) (h0f : Nat.beq d0 df = false) (hf1 : Nat.beq df d1 = false) (h1f : Nat.beq d1 df = false)
  (run0 : ∀ (a : Act) (w : World), (∀ t, Nat.beq t d0 = false → Nat.beq t d1 = false → Nat.beq t df = false → a.eval (.tmp t) = ap.eval (.tmp t)) → (execOp a.eval o0).run P w = .ok (.value v0) w)
  (run1 : ∀ (a : Act) (w : World), (∀ t, Nat.beq t d0 = false → Nat.beq t d1 = false → Nat.beq t df = false → a.eval (.tmp t) = ap.eval (.tmp t)) → (execOp a.eval o1).run P w = .ok (.value v1) w)
  (runf : ∀ (a : Act) (w : World), (execOp a.eval of).run P w = .ok (.value (.pointer (some ⟨w.heap.size, 0, none⟩))) (w.alloc (.cells z ty)))
  (runj : ∀ (a : Act) (w : World) (b : Nat), a.eval (.tmp d0) = v0 → a.eval (.tmp df) = .pointer (some ⟨b, 0, none⟩) → Bk w b z ty → (execOp a.eval oj).run P w = .ok .skip (w.setRow b cs'))
  (hgw : w₀.heap.size ≤ wp.heap.size) (hY : Y wp.heap.size)
  (h : ∀ a' wm w' b, Ok N a' → (∀ t, Nat.beq t d0 = false → Nat.beq t d1 = false → Nat.beq t df = false → a'.eval (.tmp t) = ap.eval (.tmp t)) → a'.eval (.tmp d0) = v0 → a'.eval (.tmp d1) = v1 → a'.eval (.tmp df) = .pointer (some ⟨b, 0, none⟩) → (w₀.heap.size ≤ b ∧ Y b) → Gr wp wm → Bk wm b z ty → Upd wm w' b → Bk w' b cs' ty → wpAny P .any ops Q fuel (LJ true) a' w') :
  (∀ a w, SN N ap wp w₀ df d0 d1 v0 v1 z ty Y false false true a w → wpAny P .any ops Q (fuel + 3) (LL false false true) a w) ∧ (∀ a w, SN N ap wp w₀ df d0 d1 v0 v1 z ty Y false false false a w → wpAny P .any ops Q (fuel + 4) (LL false false false) a w) := by
 have store : ∀ b1 a w, SN N ap wp w₀ df d0 d1 v0 v1 z ty Y true b1 true a w → ∀ R : Act → World → Prop, (∀ wm b, a.eval (.tmp df) = .pointer (some ⟨b, 0, none⟩) → (w₀.heap.size ≤ b ∧ Y b) → Gr wp w → Bk w b z ty → Upd w (w.setRow b cs') b → Bk (w.setRow b cs') b cs' ty → wm = w.setRow b cs' → R a wm) → wpOp P ops Q j R a w := by
  intro b1 a w s R hR
  obtain ⟨g, b, h1, h2, h3⟩ := s.wf rfl
  exact w_st hoj (hwj a) hdj (runj a w b (s.e0 rfl) h1 h3) (hR _ b h1 h2 g h3 (upd_row _ _ _) (h3.row _) rfl)
 have n3 : ∀ a w, SN N ap wp w₀ df d0 d1 v0 v1 z ty Y true true true a w → wpAny P .any ops Q (fuel + 1) (LL true true true) a w := by
  intro a w s
  refine wpAny_all hr3 (by simp) fun i hi => ?_
  obtain rfl : i = j := by simpa using hi
  refine store true a w s _ fun wm b k1 k2 k3 k4 k5 k6 e => ?_
  subst e
  rw [hsj true]
  exact h a w _ b s.ok s.old (s.e0 rfl) (s.e1 rfl) k1 k2 k3 k4 k5 k6
 have n2 : ∀ a w, SN N ap wp w₀ df d0 d1 v0 v1 z ty Y true false true a w → wpAny P .any ops Q (fuel + 2) (LL true false true) a w := by
  intro a w s
  refine wpAny_all hr2 (by simp) fun i hi => ?_
  rcases List.mem_cons.1 hi with rfl | hi
  ·refine w_val ho1 (hw1 _) hd1 (run1 a w s.old) ?_
   rw [hs1 true true]
   exact n3 _ _ (s.p1 hN1 h01 hf1)
  ·obtain rfl : i = j := by simpa using hi
   refine store false a w s _ fun wm b k1 k2 k3 k4 k5 k6 e => ?_
   subst e
   rw [hsj false]
   refine wpAny_all hrj (by simp) fun i hi => ?_
   obtain rfl : i = e1 := by simpa using hi
   refine w_val ho1 (hw1 _) hd1 (run1 a _ s.old) ?_
   rw [hsj1]
   have nx := Nx.put s.ok hN1 v1
   exact h _ w _ b nx.ok (fun t q0 q1 qf => (nx.oth t q1).trans (s.old t q0 q1 qf)) ((nx.oth _ h01).trans (s.e0 rfl)) nx.at_ ((nx.oth _ hf1).trans k1) k2 k3 k4 k5 k6
 have n1 : ∀ a w, SN N ap wp w₀ df d0 d1 v0 v1 z ty Y false true true a w → wpAny P .any ops Q (fuel + 2) (LL false true true) a w := by
  intro a w s
  refine wpAny_all hr1 (by simp) fun i hi => ?_
  obtain rfl : i = e0 := by simpa using hi
  refine w_val ho0 (hw0 _) hd0 (run0 a w s.old) ?_
  rw [hs0 true true]
  exact n3 _ _ (s.p0 hN0 h10 hf0)
 have n0 : ∀ a w, SN N ap wp w₀ df d0 d1 v0 v1 z ty Y false false true a w → wpAny P .any ops Q (fuel + 3) (LL false false true) a w := by
  intro a w s
  refine wpAny_all hr0 (by simp) fun i hi => ?_
  rcases List.mem_cons.1 hi with rfl | hi
  ·refine w_val ho0 (hw0 _) hd0 (run0 a w s.old) ?_
   rw [hs0 false true]
   exact n2 _ _ (s.p0 hN0 h10 hf0)
  ·obtain rfl : i = e1 := by simpa using hi
   refine w_val ho1 (hw1 _) hd1 (run1 a w s.old) ?_
   rw [hs1 false true]
   exact n1 _ _ (s.p1 hN1 h01 hf1)
 have q3 : ∀ a w, SN N ap wp w₀ df d0 d1 v0 v1 z ty Y true true false a w → wpAny P .any ops Q (fuel + 2) (LL true true false) a w := by
  intro a w s
  refine wpAny_all hq3 (by simp) fun i hi => ?_
  obtain rfl : i = f := by simpa using hi
  refine w_alloc hof (hwf _) hdf (runf a w) ?_
  rw [hsf true true]
  exact n3 _ _ (s.pf hgw hY hNf h0f h1f)
 have q2 : ∀ a w, SN N ap wp w₀ df d0 d1 v0 v1 z ty Y true false false a w → wpAny P .any ops Q (fuel + 3) (LL true false false) a w := by
  intro a w s
  refine wpAny_all hq2 (by simp) fun i hi => ?_
  rcases List.mem_cons.1 hi with rfl | hi
  ·refine w_val ho1 (hw1 _) hd1 (run1 a w s.old) ?_
   rw [hs1 true false]
   exact q3 _ _ (s.p1 hN1 h01 hf1)
  ·obtain rfl : i = f := by simpa using hi
   refine w_alloc hof (hwf _) hdf (runf a w) ?_
   rw [hsf true false]
   exact n2 _ _ (s.pf hgw hY hNf h0f h1f)
 have q1 : ∀ a w, SN N ap wp w₀ df d0 d1 v0 v1 z ty Y false true false a w → wpAny P .any ops Q (fuel + 3) (LL false true false) a w := by
  intro a w s
  refine wpAny_all hq1 (by simp) fun i hi => ?_
  rcases List.mem_cons.1 hi with rfl | hi
  ·refine w_val ho0 (hw0 _) hd0 (run0 a w s.old) ?_
   rw [hs0 true false]
   exact q3 _ _ (s.p0 hN0 h10 hf0)
  ·obtain rfl : i = f := by simpa using hi
   refine w_alloc hof (hwf _) hdf (runf a w) ?_
   rw [hsf false true]
   exact n1 _ _ (s.pf hgw hY hNf h0f h1f)
 refine ⟨n0, ?_⟩
 intro a w s
 refine wpAny_all hq0 (by simp) fun i hi => ?_
 rcases List.mem_cons.1 hi with rfl | hi
 ·refine w_val ho0 (hw0 _) hd0 (run0 a w s.old) ?_
  rw [hs0 false false]
  exact q2 _ _ (s.p0 hN0 h10 hf0)
 ·rcases List.mem_cons.1 hi with rfl | hi
  ·refine w_val ho1 (hw1 _) hd1 (run1 a w s.old) ?_
   rw [hs1 false false]
   exact q1 _ _ (s.p1 hN1 h01 hf1)
  ·obtain rfl : i = f := by simpa using hi
   refine w_alloc hof (hwf _) hdf (runf a w) ?_
   rw [hsf false false]
   exact n0 _ _ (s.pf hgw hY hNf h0f h1f)
theorem RegN.runN {id n k f : Nat} {hs : List Nat} {js : Js} {r : Option Nat} {c : Nat} {a : Act} {w : World} {z : Array Value} {ty : TypeId} {L1 L2 : Array Bool} (R : RegN P ops Q N a w.drew r c Z (f :: hs) n js) (hr : ∀ k, r = some k → k < w.heap.size) (hfc : Nat.beq f c = false) (hcs : hd hs c = true) (hZ : ∀ b w w', Gr w w' → Z b w → Z b w') (hZ1 : ∀ v w, jAt js c v w → Z w.heap.size (w.alloc (.cells z ty))) (hn : ops.size = n) (hk : ((List.range n).filter fun i => hd hs i).length + (k + 1) = n)
    (hL1 : firstsH n hs = L1) (hL2 : firstsH n (f :: hs) = L2) (hf : P.follows .mixedOrders = true) (ok : Ok N a) (hsh : shapeF ops hs f = true) (hN : ((f :: hs).all fun i => Nat.blt (dstAt ops i) N) = true)
    (hrun : ∀ (o : Oper) (a : Act) (w : World), ops[f]? = some o → (execOp a.eval o).run P w = .ok (.value (.pointer (some ⟨w.heap.size, 0, none⟩))) (w.alloc (.cells z ty)))
    (h : ∀ a' w', PostM ops hs r f js N a w.drew a' w' → wpAny P .any ops Q (k + 1) L1 a' w' ∧ ∀ b, a'.eval (.tmp (dstAt ops f)) = .pointer (some ⟨b, 0, none⟩) → w.drew.heap.size ≤ b → Bk w' b z ty → Z b w' → wpAny P .any ops Q k L2 a' w') : (Code.region id ops true).wp P Q a w := by
  subst hn hL1 hL2
  refine wp_region_any hf ?_
  obtain ⟨hdd0, -, -, hff, -, -⟩ := shapeF_spec hsh
  have hmem : ∀ j, hd hs j = true → j ∈ (List.range ops.size).filter fun i => hd hs i := fun j hj => by
    obtain ⟨o, ho, -⟩ := hdd0 j hj
    exact List.mem_filter.2 ⟨List.mem_range.2 (Array.getElem?_eq_some_iff.1 ho).1, hj⟩
  have h' := R.wayN hr hfc hcs hZ hZ1 rfl hsh hN k hrun (fun a' w' p => ⟨(h a' w' p).1, trivial⟩) (fun a' w' b p e1 e2 e3 e4 => (h a' w' p).2 b e1 e2 e3 e4) ((List.range ops.size).filter fun i => hd hs i) (Array.replicate ops.size false) a w.drew
    { ok := ok, gr := gb_self, gr0 := fun _ => Gr.refl _, old := fun _ _ => rfl, size := by simp
      closed := fun i o h => by rw [replicate_getD] at h; cases h
      nodup := List.nodup_range.filter _
      un := fun j hj => by rw [replicate_getD]; simp only [true_iff]; exact hmem j hj
      lt := fun j hj => (List.mem_filter.1 hj).2
      tail := fun j _ _ => replicate_getD _ _
      made := fun h => by rw [replicate_getD] at h; cases h
      js := fun j _ h => by rw [replicate_getD] at h; cases h }
  rw [replicate_getD] at h'
  simp only [Bool.false_eq_true, if_false] at h'
  rw [hk] at h'
  exact h'
end
end Gx
/- Sites: reedkeep.makes, two, siteBegun. -/
namespace Go.Proofs.YtglbnggkkjhokaaGreat
open Go.RowKit Rm Gx
theorem ret3 {P : Program} {a : Act} {w : World} {fn : Func} {R : Ending → World → Prop} {N t t' t'' : Nat} {v v' v'' : Value} (ok : Ok N a) (hr : fn.results = #[.tmp t, .tmp t', .tmp t'']) (hv : a.eval (.tmp t) = v) (hv' : a.eval (.tmp t') = v') (hv'' : a.eval (.tmp t'') = v'') (h : R (.returned (.tuple #[v, v', v''])) w) : bodyPost P fn R .ret a w := by
 refine ⟨ok.dfr, .tuple #[v, v', v''], ?_, h⟩
 have h1 : a.tmps[t]?.getD undef = v := by simpa [Act.eval] using hv
 have h2 : a.tmps[t']?.getD undef = v' := by simpa [Act.eval] using hv'
 have h3 : a.tmps[t'']?.getD undef = v'' := by simpa [Act.eval] using hv''
 simp [results, hr, h1, h2, h3]
def id4 (j : Nat) : List UInt8 := if j = 0 then [97] else if j = 1 then [98] else if j = 2 then [99] else [100]
theorem id4_ok (n : Nat) : idB (id4 n) = true := by unfold id4; split <;> (try split) <;> (try split) <;> decide
theorem id4_at (b j : Nat) (w : World) (t : TypeId) (hb : Bk w b #[.string (bs [97]), .string (bs [98]), .string (bs [99]), .string (bs [100])] t) (hj : j < 4) : w.cell? ⟨b, 0 + j * 1, none⟩ = some (.string (bs (id4 j))) := by
 have : j = 0 ∨ j = 1 ∨ j = 2 ∨ j = 3 := by omega
 rcases this with rfl | rfl | rfl | rfl
 ·exact hb.cell 0 rfl
 ·exact hb.cell 1 rfl
 ·exact hb.cell 2 rfl
 ·exact hb.cell 3 rfl
structure SameE (S S' : SiD) : Prop where
  me : S'.me = S.me
  stamp : S'.stamp = S.stamp
  T : S'.T = S.T
  P : S'.P = S.P
theorem SameE.refl (S : SiD) : SameE S S := ⟨rfl, rfl, rfl, rfl⟩
theorem SameE.step {S S' : SiD} (h : SameE S S') (l : List UInt8) (t n d : Int) : SameE S (mkS S' l t n d) := ⟨h.me, h.stamp, h.T, h.P⟩
theorem one_bare {me : Nat} {l : List UInt8} {t n d : Int} (hme : me < 5) (hid : idB l = true) (ht : 0 ≤ t ∧ t < 16) (hn : 0 ≤ n ∧ n < 32) (hd : 0 ≤ d ∧ d ≤ 1000000) : chkOne ⟨l, (me : Int), 1, t, n, d, [], []⟩ = 0 := by
 have h2 : argB ⟨l, (me : Int), 1, t, n, d, [], []⟩ = true := by
  unfold argB
  have d1 : dotB ((me : Int), (1 : Int)) = true := by rw [dotB_iff]; simp only; omega
  have d2 : ptB t n = true := by rw [ptB_iff]; omega
  simp only [d1, d2, Bool.true_and, Bool.and_eq_true, decide_eq_true_eq]
  omega
 have h3 : chkK [] [] = 0 := ok0.chk (Nat.zero_le _)
 have h4 : memI [] [] (me : Int) 1 = false := by
  unfold memI
  cases q : memB (([] : List Int).map Int.toNat) (([] : List (Int × Int)).map fun d => (d.1.toNat, d.2.toNat)) (me : Int).toNat (1 : Int).toNat
  ·rfl
  ·rw [memB_iff] at q
   simp [cv] at q
 unfold chkOne
 simp only
 rw [if_neg (by rw [hid]; simp), if_neg (by rw [h2]; simp), if_neg (by rw [h3]; simp), if_neg (by rw [h4]; simp)]
def ZS (b : Nat) (S : SiD) (c : Nat) (w : World) : Prop := ∀ wm w2, Gr w wm → Upd wm w2 c → SiteAt w2 b S
theorem NewAt.zs {wW w w' : World} {b c : Nat} {S S' : SiD} (h : NewAt w w' b S S') (hW : Gr wW w) (hS : SiteAt wW b S) (g : w.grownBy w' (some b)) (hT : S'.T = S.T) (hP : S'.P = S.P) (h1 : wW.heap.size ≤ c) (h2 : c < w.heap.size) : ZS b S' c w' := fun wm w2 g2 u => by
 have hlt := hS.lt
 have gb : wW.grownBy w2 (some b) := gb_upd (gb_gr (gb_gb (gb_of hW) g) g2) u h1
 have k := hS.tk gb
 obtain ⟨fa, fn, fc, sa, sn, sq, la, lc, ra, rn, rc, q1, q2, q3⟩ := h
 obtain ⟨fa', fn', fc', sa', sn', sq', la', lc', p1, p2, p3, p4⟩ := hS
 have e := p1.gr hW
 unfold Bk at e q1
 rw [q1] at e
 injection e with e
 injection e with e
 simp only [Array.mk.injEq, List.cons.injEq, Value.slice.injEq, and_true, true_and] at e
 obtain ⟨⟨rfl, rfl, rfl⟩, ⟨rfl, rfl, rfl⟩, rfl, rfl⟩ := e
 have hne : b ≠ c := by omega
 refine ⟨_, _, _, ra, rn, rc, _, _, (u.oth b hne).trans (Bk.gr q2 g2), ?_, ((q3.tkw (tkw_gr g2)).updL u h2).any, ?_⟩
 ·rw [hT]; exact p2.tk k.p
 ·rw [hP]; exact p4.tkw k
theorem smake_i (b : Nat) (S : SiD) (l : List UInt8) (t n d : Nat) (w0 wW w : World) (hG : Gr w0 w) (hB : w0.heap.size ≤ b) (hW : Gr wW w) (hS : SiteAt wW b S) (hI : MkI S) (hm : S.made < 40) (hid : idB l = true) (ht : t < 16) (hn : n < 32) (hd : d ≤ 1000000) :
  Calls Tryz.prog 22 #[.pointer (some ⟨b, 0, none⟩), .string (bs l), .agg #[.int .i64 ((t : Nat) : Int), .int .i64 ((n : Nat) : Int)], .int .i64 ((d : Nat) : Int)] w fun e w' => e = .returned (.tuple #[.agg #[.int .i64 ((S.me : Nat) : Int), .int .i64 ((S.made + 1 : Nat) : Int)], .int .i64 0]) ∧ SiteAt w' b (mkS S l t n d) ∧ MkI (mkS S l t n d) ∧ (∀ c, wW.heap.size ≤ c → c < w.heap.size → ZS b (mkS S l t n d) c w') ∧ w.grownBy w' (some b) := by
 have ht' : 0 ≤ (t : Int) ∧ (t : Int) < 16 := by omega
 have hn' : 0 ≤ (n : Int) ∧ (n : Int) < 32 := by omega
 have hd' : 0 ≤ (d : Int) ∧ (d : Int) ≤ 1000000 := by omega
 have hone := hI.one hid ht' hn' hd'
 refine (smake_ok b S l t n d w0 w hG hB (hS.gr hW) hI.ok (one_bare hI.ok.me hid ht' hn' hd') (by omega) (hI.few l) (hI.put hone).1).mono ?_
 rintro e w' ⟨rfl, h1, h2, h3⟩
 exact ⟨rfl, h1, hI.step hone hm, fun c q1 q2 => h2.zs hW hS h3 rfl rfl q1 q2, h3⟩
theorem makes_k (b : Nat) (S0 : SiD) (va : Option Addr) (vc : Nat) (L : List (List Int)) (hvc : L.length ≤ vc) (w0 w : World) (hG : Gr w0 w) (hB : w0.heap.size ≤ b) (hS : SiteAt w b S0) (hI : MkI S0) (hmd : S0.made ≤ 20) (hL : L ≠ [] → ∃ b off, va = some ⟨b, off, none⟩ ∧ b < w0.heap.size ∧ ∀ i x, L[i]? = some x → ∃ ua uc, w0.cell? ⟨b, off + i * 1, none⟩ = some (.slice ua x.length uc) ∧ RdI1 w0 ua x) :
  Calls Tryz.prog 53 #[.pointer (some ⟨b, 0, none⟩), .slice va L.length vc] w fun e w' => e = .returned (.bool true) ∧ ∃ S, SiteAt w' b S ∧ MkI S ∧ S.made ≤ S0.made + 12 ∧ SameE S0 S ∧ w.grownBy w' (some b) := by
 refine enter (N := 50) Tryz.func53 rfl rfl rfl (fun a0 ok0 h0 => ?_)
 have aW : a0.eval (.tmp 0) = .pointer (some ⟨b, 0, none⟩) := h0 0 _ rfl
 have aD : a0.eval (.tmp 1) = .slice va L.length vc := h0 1 _ rfl
 clear h0
 refine wp_seq_k (fun K1 aX => (wp_region_lit (sw ok0 (o_as ev_const) (fun cK W => ?_))))
 refine wpList_nil (th_n (aX _ _ (wp_seq_k (fun K3 aY => (wp_seq_k (fun K4 aZ => (wp_region_lit (sw W.ok (o_mv (W.n aD)) (fun cO X => ?_)))))))))
 refine sw X.ok (o_mv (X.n (W.n aD))) (fun cS Z => ?_)
 refine sw Z.ok (o_len Z.at_ Tryz.underlying23) (fun cT n7 => ?_)
 refine sw n7.ok (o_min n7.at_ ev_const (nmin_int _ _)) (fun cU n8 => ?_)
 have e9 := n8.n (n7.n (Z.n X.at_))
 refine sw n8.ok (o_cut (k := min (L.length) (12)) (s := 1) e9 n8.at_ Tryz.underlying23 (by kernel_rfl) (by omega)) (fun cV ac => ?_)
 refine sw ac.ok (o_len ac.at_ Tryz.underlying23) (fun cW ad => ?_)
 refine sw ad.ok (o_mv ev_const) (fun cX K => ?_)
 refine wpList_nil (th_n (aZ _ _ (wp_block ?_)))
 have a2 := K.n (ad.n (ac.n (n8.n (n7.n (Z.n (X.n (W.n aW)))))))
 have a3 := K.n (ad.n (ac.n (n8.n (n7.n (Z.n (X.n W.at_))))))
 refine lp (fun (nL : Nat) (aL : Act) (wL : World) => ∃ i : Nat, ∃ S : SiD, nL = min L.length 12 - i ∧ Ok 50 aL ∧ Gr w0 wL ∧ (aL.eval (.tmp 0) = .pointer (some ⟨b, 0, none⟩)) ∧ (aL.eval (.tmp 4) = .bool false) ∧ (aL.eval (.tmp 13) = .slice va (min (L.length) (12)) vc) ∧ (aL.eval (.tmp 14) = .int .i64 ((min (L.length) (12) : Nat) : Int)) ∧ (aL.eval (.tmp 15) = .int .i64 (i : Int)) ∧ (w.grownBy wL (some b)) ∧ (SiteAt wL b S) ∧ (i ≤ min L.length 12) ∧ (MkI S) ∧ (S.made ≤ S0.made + i) ∧ (SameE S0 S)) _ ⟨0, S0, rfl, K.ok, hG, a2, a3, (K.n (ad.n ac.at_)), (K.n ad.at_), K.at_, (gb_self : w.grownBy w (some b)), hS, by omega, hI, (Nat.le_refl _), SameE.refl _⟩ ?_
 rintro cY cZ ah ⟨i, S, hmI13, okI13, GI13, aE, aF, an, ao, ai, fgbI13, fSbI13, hiI13, hII13, hmI13, hEI13⟩ KI13 hKI13
 refine wp_seq_k (fun c0 a4 => (wp_region_lit (sw okI13 (o_ltI ai ao) (fun c1 l => ?_))))
 refine wpList_nil (th_n (a4 _ _ (wp_seq_k (fun c2 a6 => ?_))))
 by_cases aG : (i : Int) < ((min (L.length) (12) : Nat) : Int)
 ·refine wp_cond_true ((l.at_).trans (congrArg Value.bool (decide_eq_true aG))) ?_
  refine wp_skip (th_n (a6 _ _ (wp_seq_k (fun c3 aH => (wp_block (wp_seq_k (fun c4 a7 => (wp_region_lit ?_))))))))
  have aI : i < List.length L := by omega
  obtain ⟨bh25, fh25, a8, a9, ba⟩ := hL (ne_nil_of_lt aI)
  obtain ⟨xh25, bb⟩ : ∃ x, L[i]? = some x := ⟨_, List.getElem?_eq_getElem aI⟩
  obtain ⟨uh25, vh25, bc, aj⟩ := ba _ _ bb
  refine sw l.ok (o_iaV (i := i) (s := 1) a8 (l.n an) (l.n ai) Tryz.underlying23 (by kernel_rfl) (by omega)) (fun c5 C => ?_)
  refine sw C.ok (o_ld C.at_ (Tryz.isAgg45 _) ((Below.cell GI13 a9).trans bc)) (fun c6 D => ?_)
  refine sw D.ok (o_as D.at_) (fun c7 t => ?_)
  refine wpList_nil (th_n (a7 _ _ (wp_seq_k (fun c8 bd => (wp_seq_k (fun c9 bf => (wp_region_lit (sw t.ok (o_mv t.at_) (fun da A => ?_)))))))))
  refine sw A.ok (o_len A.at_ Tryz.underlying45) (fun db B => ?_)
  refine sw B.ok (o_ltI B.at_ ev_const) (fun dc n => ?_)
  refine wpList_nil (th_n (bf _ _ ?_))
  by_cases aJ : ((xh25.length : Nat) : Int) < 3
  ·refine wp_cond_true ((n.at_).trans (congrArg Value.bool (decide_eq_true aJ))) ?_
   refine wp_exit (th_x (ib_x (th_n (aH _ _ (wp_region_lit ?_)))))
   have bg := n.n (B.n (A.n (t.n (D.n (C.n (l.n ai))))))
   refine sw n.ok (o_add (r := ((i + 1 : Nat) : Int)) bg ev_const (by omega) (by omega)) (fun dd M => ?_)
   refine sw M.ok (o_mv M.at_) (fun dg O => ?_)
   refine wpList_nil ?_
   have bh := O.n (M.n (n.n (B.n (A.n (t.n (D.n (C.n (l.n aE))))))))
   have bi := O.n (M.n (n.n (B.n (A.n (t.n (D.n (C.n (l.n aF))))))))
   have bj := O.n (M.n (n.n (B.n (A.n (t.n (D.n (C.n (l.n an))))))))
   have bl := O.n (M.n (n.n (B.n (A.n (t.n (D.n (C.n (l.n ao))))))))
   exact th_n (hKI13 _ _ _ (by omega) ⟨i + 1, S, rfl, O.ok, GI13, bh, bi, bj, bl, O.at_, fgbI13, fSbI13, by omega, hII13, (by have := hmI13; omega), hEI13⟩)
  ·refine wp_cond_false ((n.at_).trans (congrArg Value.bool (decide_eq_false aJ))) ?_
   refine wp_skip (th_n (bd _ _ (wp_seq_k (fun dh bm => ?_))))
   have ltMR43 := fSbI13.lt
   have aK := n.n (B.n (A.n (t.n (D.n (C.n (l.n aE))))))
   have ak := n.n (B.n (A.n t.at_))
   have aq : 0 < List.length xh25 := by omega
   obtain ⟨bh48, fh48, bn, bo, bp⟩ := aj (ne_nil_of_lt aq)
   obtain ⟨xh48, bq⟩ : ∃ x, xh25[0]? = some x := ⟨_, List.getElem?_eq_getElem aq⟩
   have hw49 := wi_lt xh48 4 (by omega)
   have ar : 1 < List.length xh25 := by omega
   obtain ⟨bh50, fh50, br, bt, bu⟩ := aj (ne_nil_of_lt ar)
   obtain ⟨xh50, bv⟩ : ∃ x, xh25[1]? = some x := ⟨_, List.getElem?_eq_getElem ar⟩
   have hw51 := wi_lt xh50 16 (by omega)
   have au : 2 < List.length xh25 := by omega
   obtain ⟨bh52, fh52, bx, bz, bA⟩ := aj (ne_nil_of_lt au)
   obtain ⟨xh52, bB⟩ : ∃ x, xh25[2]? = some x := ⟨_, List.getElem?_eq_getElem au⟩
   have hw53 := wi_lt xh52 32 (by omega)
   have av : 2 < List.length xh25 := by omega
   obtain ⟨bh54, fh54, bC, bD, bE⟩ := aj (ne_nil_of_lt av)
   obtain ⟨xh54, bF⟩ : ∃ x, xh25[2]? = some x := ⟨_, List.getElem?_eq_getElem av⟩
   have hw55 := wi_lt xh54 1000 (by omega)
   refine regn_start (N := 50) [25, 0, 1, 2, 3, 4, 5, 6, 7, 8, 9, 10, 11, 12, 13, 14, 15, 16, 17, 18, 19, 20, 21, 22] (some b) 21 (ZS b (mkS S ((id4 (wi xh48 4))) ((wi xh50 16 : Nat) : Int) ((wi xh52 32 : Nat) : Int) ((wi xh54 1000 : Nat) : Int))) (by kernel_rfl) (fun bG => ?_)
   have bH := bG.snoc (n' := 1) rfl rfl (fun vJ _ => vJ = .pointer (some ⟨b, 0, none⟩)) rfl (fun _ _ _ _ h => h) (fun aS wS pS => by
     exact Does.val (wn _ rfl) (o_mv ((pS.old 0 rfl).trans aK)) (Gr.refl _) rfl rfl)
   have bI := bH.snoc (n' := 2) rfl rfl (fun vJ wJ => ∃ E : Nat, vJ = .slice (some ⟨E, 0, none⟩) 4 4 ∧ ah.heap.size ≤ E ∧ Bk wJ E #[.string (bs [97]), .string (bs [98]), .string (bs [99]), .string (bs [100])] 9) rfl (fun _ _ _ g ⟨b, h1, h2, h3⟩ => ⟨b, h1, h2, h3.grown_ne g (fun k e => by cases e; exact Nat.lt_of_lt_of_le ltMR43 h2)⟩) (fun aS wS pS => by
     obtain ⟨di, bJ, bK, az⟩ := info3_of (show (Tryz.prog.info? 9).map (fun i => (i.zero, i.size)) = some (some (.string (bs [])), 1) by kernel_rfl)
     exact Does.val (wn _ rfl) (o_bs (vs := [(0, .string (bs [97])), (1, .string (bs [98])), (2, .string (bs [99])), (3, .string (bs [100]))]) (by simp [ev_const, bs]) Tryz.underlying24 bJ bK (by rw [az]; rfl) (by rw [az]; rfl) (by rw [az]; kernel_rfl)) ((Gr.refl _).alloc _) ⟨_, rfl, pS.gr.size, (New.mk' _ _ _).bk⟩ rfl)
   have bL := bI.snoc (n' := 3) rfl rfl (fun vJ _ => vJ = .slice uh25 xh25.length vh25) rfl (fun _ _ _ _ h => h) (fun aS wS pS => by
     exact Does.val (wn _ rfl) (o_mv ((pS.old 6 rfl).trans ak)) (Gr.refl _) rfl rfl)
   have bM := bL.snoc (n' := 4) rfl rfl (fun vJ _ => vJ = .pointer (some ⟨bh48, fh48 + 0 * 1, none⟩)) rfl (fun _ _ _ _ h => h) (fun aS wS pS => by
     have eR43_2 : aS.eval (.tmp 25) = .slice uh25 xh25.length vh25 := pS.pre 2 rfl
     exact Does.val (wn _ rfl) (o_iaV (i := 0) (s := 1) bn (eR43_2) ev_const Tryz.underlying45 (by kernel_rfl) aq) (Gr.refl _) rfl rfl)
   have bO := bM.snoc (n' := 5) rfl rfl (fun vJ _ => vJ = .int .i64 (xh48)) rfl (fun _ _ _ _ h => h) (fun aS wS pS => by
     have eR43_3 : aS.eval (.tmp 26) = .pointer (some ⟨bh48, fh48 + 0 * 1, none⟩) := pS.pre 3 rfl
     exact Does.val (wn _ rfl) (o_ld (eR43_3) (Tryz.isAgg3 _) ((Below.cell (gr_site GI13 (gb_drew pS.gr) hB) bo).trans (bp _ _ bq))) (Gr.refl _) rfl rfl)
   have bS := bO.snoc (n' := 6) rfl rfl (fun vJ _ => vJ = .int .i64 ((wi xh48 4 : Nat) : Int)) rfl (fun _ _ _ _ h => h) (fun aS wS pS => by
     have eR43_4 : aS.eval (.tmp 27) = .int .i64 (xh48) := pS.pre 4 rfl
     exact Does.call (wn _ rfl) (o_f2 Tryz.func60 rfl rfl rfl (eR43_4) ev_const) (kwithin_any xh48 4 (by omega) (by omega) wS) (by rintro _ G ⟨rfl, g⟩; exact ⟨_, rfl, g, rfl⟩) rfl)
   have bT := bS.snoc (n' := 7) rfl rfl (fun vJ wJ => ∃ E : Nat, vJ = .pointer (some ⟨E, 0 + (wi xh48 4) * 1, none⟩) ∧ ah.heap.size ≤ E ∧ Bk wJ E #[.string (bs [97]), .string (bs [98]), .string (bs [99]), .string (bs [100])] 9) rfl (fun _ _ _ g ⟨b, h1, h2, h3⟩ => ⟨b, h1, h2, h3.grown_ne g (fun k e => by cases e; exact Nat.lt_of_lt_of_le ltMR43 h2)⟩) (fun aS wS pS => by
     obtain ⟨E, eR43_1, geb46, bkb46⟩ := pS.pre 1 rfl
     have eR43_1 : aS.eval (.tmp 24) = .slice (some ⟨E, 0, none⟩) 4 4 := eR43_1
     have eR43_5 : aS.eval (.tmp 28) = .int .i64 ((wi xh48 4 : Nat) : Int) := pS.pre 5 rfl
     exact Does.val (wn _ rfl) (o_ia (i := wi xh48 4) (s := 1) (eR43_1) (eR43_5) Tryz.underlying24 (by kernel_rfl) (by omega)) (Gr.refl _) ⟨E, rfl, geb46, bkb46⟩ rfl)
   have bU := bT.snoc (n' := 8) rfl rfl (fun vJ _ => vJ = .string (bs (id4 (wi xh48 4)))) rfl (fun _ _ _ _ h => h) (fun aS wS pS => by
     obtain ⟨E, eR43_6, geb46, bkb46⟩ := pS.pre 6 rfl
     have eR43_6 : aS.eval (.tmp 29) = .pointer (some ⟨E, 0 + (wi xh48 4) * 1, none⟩) := eR43_6
     exact Does.val (wn _ rfl) (o_ld (eR43_6) (Tryz.isAgg9 _) (id4_at _ _ _ _ bkb46 (by omega))) (Gr.refl _) rfl rfl)
   have bV := bU.snoc (n' := 9) rfl rfl (fun vJ _ => vJ = .slice uh25 xh25.length vh25) rfl (fun _ _ _ _ h => h) (fun aS wS pS => by
     exact Does.val (wn _ rfl) (o_mv ((pS.old 6 rfl).trans ak)) (Gr.refl _) rfl rfl)
   have bW := bV.snoc (n' := 10) rfl rfl (fun vJ _ => vJ = .pointer (some ⟨bh50, fh50 + 1 * 1, none⟩)) rfl (fun _ _ _ _ h => h) (fun aS wS pS => by
     have eR43_8 : aS.eval (.tmp 31) = .slice uh25 xh25.length vh25 := pS.pre 8 rfl
     exact Does.val (wn _ rfl) (o_iaV (i := 1) (s := 1) br (eR43_8) ev_const Tryz.underlying45 (by kernel_rfl) ar) (Gr.refl _) rfl rfl)
   have bX := bW.snoc (n' := 11) rfl rfl (fun vJ _ => vJ = .int .i64 (xh50)) rfl (fun _ _ _ _ h => h) (fun aS wS pS => by
     have eR43_9 : aS.eval (.tmp 32) = .pointer (some ⟨bh50, fh50 + 1 * 1, none⟩) := pS.pre 9 rfl
     exact Does.val (wn _ rfl) (o_ld (eR43_9) (Tryz.isAgg3 _) ((Below.cell (gr_site GI13 (gb_drew pS.gr) hB) bt).trans (bu _ _ bv))) (Gr.refl _) rfl rfl)
   have bY := bX.snoc (n' := 12) rfl rfl (fun vJ _ => vJ = .int .i64 ((wi xh50 16 : Nat) : Int)) rfl (fun _ _ _ _ h => h) (fun aS wS pS => by
     have eR43_10 : aS.eval (.tmp 33) = .int .i64 (xh50) := pS.pre 10 rfl
     exact Does.call (wn _ rfl) (o_f2 Tryz.func60 rfl rfl rfl (eR43_10) ev_const) (kwithin_any xh50 16 (by omega) (by omega) wS) (by rintro _ G ⟨rfl, g⟩; exact ⟨_, rfl, g, rfl⟩) rfl)
   have bZ := bY.snoc (n' := 13) rfl rfl (fun vJ _ => vJ = .slice uh25 xh25.length vh25) rfl (fun _ _ _ _ h => h) (fun aS wS pS => by
     exact Does.val (wn _ rfl) (o_mv ((pS.old 6 rfl).trans ak)) (Gr.refl _) rfl rfl)
   have b0 := bZ.snoc (n' := 14) rfl rfl (fun vJ _ => vJ = .pointer (some ⟨bh52, fh52 + 2 * 1, none⟩)) rfl (fun _ _ _ _ h => h) (fun aS wS pS => by
     have eR43_12 : aS.eval (.tmp 35) = .slice uh25 xh25.length vh25 := pS.pre 12 rfl
     exact Does.val (wn _ rfl) (o_iaV (i := 2) (s := 1) bx (eR43_12) ev_const Tryz.underlying45 (by kernel_rfl) au) (Gr.refl _) rfl rfl)
   have b1 := b0.snoc (n' := 15) rfl rfl (fun vJ _ => vJ = .int .i64 (xh52)) rfl (fun _ _ _ _ h => h) (fun aS wS pS => by
     have eR43_13 : aS.eval (.tmp 36) = .pointer (some ⟨bh52, fh52 + 2 * 1, none⟩) := pS.pre 13 rfl
     exact Does.val (wn _ rfl) (o_ld (eR43_13) (Tryz.isAgg3 _) ((Below.cell (gr_site GI13 (gb_drew pS.gr) hB) bz).trans (bA _ _ bB))) (Gr.refl _) rfl rfl)
   have b2 := b1.snoc (n' := 16) rfl rfl (fun vJ _ => vJ = .int .i64 ((wi xh52 32 : Nat) : Int)) rfl (fun _ _ _ _ h => h) (fun aS wS pS => by
     have eR43_14 : aS.eval (.tmp 37) = .int .i64 (xh52) := pS.pre 14 rfl
     exact Does.call (wn _ rfl) (o_f2 Tryz.func60 rfl rfl rfl (eR43_14) ev_const) (kwithin_any xh52 32 (by omega) (by omega) wS) (by rintro _ G ⟨rfl, g⟩; exact ⟨_, rfl, g, rfl⟩) rfl)
   have b3 := b2.snoc (n' := 17) rfl rfl (fun vJ _ => vJ = .agg #[.int .i64 ((wi xh50 16 : Nat) : Int), .int .i64 ((wi xh52 32 : Nat) : Int)]) rfl (fun _ _ _ _ h => h) (fun aS wS pS => by
     have eR43_11 : aS.eval (.tmp 34) = .int .i64 ((wi xh50 16 : Nat) : Int) := pS.pre 11 rfl
     have eR43_15 : aS.eval (.tmp 38) = .int .i64 ((wi xh52 32 : Nat) : Int) := pS.pre 15 rfl
     exact Does.val (wn _ rfl) (o_bd (cells := #[.int .i64 ((wi xh50 16 : Nat) : Int), .int .i64 ((wi xh52 32 : Nat) : Int)]) (vs := [(0, .int .i64 ((wi xh50 16 : Nat) : Int)), (1, .int .i64 ((wi xh52 32 : Nat) : Int))]) (by simp [(eR43_11), (eR43_15), ev_const]) (by kernel_rfl)) (Gr.refl _) rfl rfl)
   have b4 := b3.snoc (n' := 18) rfl rfl (fun vJ _ => vJ = .slice uh25 xh25.length vh25) rfl (fun _ _ _ _ h => h) (fun aS wS pS => by
     exact Does.val (wn _ rfl) (o_mv ((pS.old 6 rfl).trans ak)) (Gr.refl _) rfl rfl)
   have b5 := b4.snoc (n' := 19) rfl rfl (fun vJ _ => vJ = .pointer (some ⟨bh54, fh54 + 2 * 1, none⟩)) rfl (fun _ _ _ _ h => h) (fun aS wS pS => by
     have eR43_17 : aS.eval (.tmp 40) = .slice uh25 xh25.length vh25 := pS.pre 17 rfl
     exact Does.val (wn _ rfl) (o_iaV (i := 2) (s := 1) bC (eR43_17) ev_const Tryz.underlying45 (by kernel_rfl) av) (Gr.refl _) rfl rfl)
   have b6 := b5.snoc (n' := 20) rfl rfl (fun vJ _ => vJ = .int .i64 (xh54)) rfl (fun _ _ _ _ h => h) (fun aS wS pS => by
     have eR43_18 : aS.eval (.tmp 41) = .pointer (some ⟨bh54, fh54 + 2 * 1, none⟩) := pS.pre 18 rfl
     exact Does.val (wn _ rfl) (o_ld (eR43_18) (Tryz.isAgg3 _) ((Below.cell (gr_site GI13 (gb_drew pS.gr) hB) bD).trans (bE _ _ bF))) (Gr.refl _) rfl rfl)
   have b7 := b6.snoc (n' := 21) rfl rfl (fun vJ _ => vJ = .int .i64 ((wi xh54 1000 : Nat) : Int)) rfl (fun _ _ _ _ h => h) (fun aS wS pS => by
     have eR43_19 : aS.eval (.tmp 42) = .int .i64 (xh54) := pS.pre 19 rfl
     exact Does.call (wn _ rfl) (o_f2 Tryz.func60 rfl rfl rfl (eR43_19) ev_const) (kwithin_any xh54 1000 (by omega) (by omega) wS) (by rintro _ G ⟨rfl, g⟩; exact ⟨_, rfl, g, rfl⟩) rfl)
   have b8 := b7.snocC (n' := 22) rfl rfl (fun vJ wJ => vJ = .tuple #[.agg #[.int .i64 ((S.me : Nat) : Int), .int .i64 ((S.made + 1 : Nat) : Int)], .int .i64 0] ∧ (SiteAt wJ b (mkS S ((id4 (wi xh48 4))) ((wi xh50 16 : Nat) : Int) ((wi xh52 32 : Nat) : Int) ((wi xh54 1000 : Nat) : Int))) ∧ (MkI (mkS S ((id4 (wi xh48 4))) ((wi xh50 16 : Nat) : Int) ((wi xh52 32 : Nat) : Int) ((wi xh54 1000 : Nat) : Int)))) rfl (fun _ _ _ g ⟨h, q0, q1⟩ => ⟨h, q0.gr g, q1⟩) (fun aS wS pS => by
     have eR43_0 : aS.eval (.tmp 23) = .pointer (some ⟨b, 0, none⟩) := pS.pre 0 rfl
     have eR43_7 : aS.eval (.tmp 30) = .string (bs (id4 (wi xh48 4))) := pS.pre 7 rfl
     have eR43_16 : aS.eval (.tmp 39) = .agg #[.int .i64 ((wi xh50 16 : Nat) : Int), .int .i64 ((wi xh52 32 : Nat) : Int)] := pS.pre 16 rfl
     have eR43_20 : aS.eval (.tmp 43) = .int .i64 ((wi xh54 1000 : Nat) : Int) := pS.pre 20 rfl
     exact DoesC.call (wn _ rfl) (o_f4 Tryz.func22 rfl rfl rfl (eR43_0) (eR43_7) (eR43_16) (eR43_20)) (smake_i b S ((id4 (wi xh48 4))) (wi xh50 16) (wi xh52 32) (wi xh54 1000) w0 ah wS (GI13.trans (gr_drew (pS.gr0 rfl))) hB (gr_drew (pS.gr0 rfl)) fSbI13 hII13 (by have := hmI13; omega) (id4_ok _) (by omega) (by omega) (by omega)) (by rintro _ G ⟨rfl, hS2, hI2, hz2, g⟩; exact ⟨_, rfl, g, ⟨⟨rfl, hS2, hI2⟩, hz2⟩⟩) rfl)
   have cb := b8.snoc (n' := 23) rfl rfl (fun vJ _ => vJ = .tuple #[.agg #[.int .i64 ((S.me : Nat) : Int), .int .i64 ((S.made + 1 : Nat) : Int)], .int .i64 0]) rfl (fun _ _ _ _ h => h) (fun aS wS pS => by
     obtain ⟨eR43_21, hS2, hI2⟩ := pS.pre 21 rfl
     have eR43_21 : aS.eval (.tmp 44) = .tuple #[.agg #[.int .i64 ((S.me : Nat) : Int), .int .i64 ((S.made + 1 : Nat) : Int)], .int .i64 0] := eR43_21
     exact Does.val (wn _ rfl) (o_mv (eR43_21)) (Gr.refl _) rfl rfl)
   have cc := cb.skip (n' := 24) rfl rfl (by kernel_rfl)
   have cd := cc.skip (n' := 25) rfl rfl (by kernel_rfl)
   have cf := cd.snoc (n' := 26) rfl rfl (fun vJ wJ => True) rfl (fun _ _ _ _ h => h) (fun aS wS pS => by
     exact Does.alloc (wn _ rfl) (o_al (z := .agg #[.int .i64 0, .int .i64 0]) (by kernel_rfl)) trivial)
   have cg := cf.skip (n' := 27) rfl rfl (by kernel_rfl)
   have ch := cg.skip (n' := 28) rfl rfl (by kernel_rfl)
   refine ch.runN (k := 4) (z := #[.int .i64 0, .int .i64 0]) (ty := 51) (fun k e => by cases e; exact ltMR43) rfl (by kernel_rfl) (fun c w w' g h wm G g2 u => h wm G (g.trans g2) u) (fun v w h wm G g u => ((show _ ∧ SiteAt _ _ _ ∧ _ from h).2.1).gr (Below.upd ((New.mk' w _ _).gr.trans g) (Nat.le_refl _) u)) (by kernel_rfl) (by kernel_rfl) rfl rfl (by kernel_rfl) n.ok (by kernel_rfl) (by kernel_rfl) (fun o a w ho => by obtain rfl := Option.some.inj ho; exact o_al (z := .agg #[.int .i64 0, .int .i64 0]) (by kernel_rfl)) (fun ap57 aM F => ?_)
   have aO := gb_drew F.gr
   obtain ⟨ep57_21, hS2, hI2⟩ := F.js 21 rfl
   have ep57_21 : ap57.eval (.tmp 44) = .tuple #[.agg #[.int .i64 ((S.me : Nat) : Int), .int .i64 ((S.made + 1 : Nat) : Int)], .int .i64 0] := ep57_21
   have ep57_22 : ap57.eval (.tmp 22) = .tuple #[.agg #[.int .i64 ((S.me : Nat) : Int), .int .i64 ((S.made + 1 : Nat) : Int)], .int .i64 0] := F.js 22 rfl
   refine (fun T => ⟨T.2 _ _ ⟨F.ok, fun _ _ _ _ => rfl, fun q => (by cases q), fun q => (by cases q), fun _ => rfl, fun q => (by cases q)⟩, fun b x1 x2 x3 x4 => T.1 _ _ ⟨F.ok, fun _ _ _ _ => rfl, fun q => (by cases q), fun q => (by cases q), fun q => (by cases q), fun _ => ⟨Gr.refl _, b, x1, ⟨x2, x4⟩, x3⟩⟩⟩) (tailN (Y := fun c => ZS b (mkS S ((id4 (wi xh48 4))) ((wi xh50 16 : Nat) : Int) ((wi xh52 32 : Nat) : Int) ((wi xh54 1000 : Nat) : Int)) c aM) (N := 50) (e0 := 23) (e1 := 24) (f := 25) (j := 26) (fuel := 1) (LL := fun x y z => #[true, true, true, true, true, true, true, true, true, true, true, true, true, true, true, true, true, true, true, true, true, true, true, x, y, z, false, false]) (LJ := fun x => #[true, true, true, true, true, true, true, true, true, true, true, true, true, true, true, true, true, true, true, true, true, true, true, true, x, true, true, false]) (ap := ap57) (wp := aM) (w₀ := ah.drew) (df := 7) (d0 := 45) (d1 := 46) (v0 := (.agg #[.int .i64 ((S.me : Nat) : Int), .int .i64 ((S.made + 1 : Nat) : Int)])) (v1 := (.int .i64 0)) (z := #[.int .i64 0, .int .i64 0]) (cs' := #[.int .i64 ((S.me : Nat) : Int), .int .i64 ((S.made + 1 : Nat) : Int)]) (ty := 51) (by kernel_rfl) (by kernel_rfl) (by kernel_rfl) (by kernel_rfl) (by kernel_rfl) (by kernel_rfl) (by kernel_rfl) (by kernel_rfl) (by kernel_rfl) (by intro x y; cases x <;> cases y <;> kernel_rfl) (by intro x y; cases x <;> cases y <;> kernel_rfl) (by intro x y; cases x <;> cases y <;> kernel_rfl) (by intro x; cases x <;> kernel_rfl) (by kernel_rfl) rfl rfl rfl rfl rfl rfl rfl rfl (fun _ => wn _ rfl) (fun _ => wn _ rfl) (fun _ => wn _ rfl) (fun _ => wn _ rfl) rfl rfl rfl rfl rfl rfl rfl rfl rfl (fun a w k => o_ex ((k 22 rfl rfl rfl).trans ep57_22) rfl) (fun a w k => o_ex ((k 22 rfl rfl rfl).trans ep57_22) rfl) (fun a w => o_al (z := .agg #[.int .i64 0, .int .i64 0]) (by kernel_rfl)) (fun a w b k0 kf kb => o_stR kf k0 kb (by kernel_rfl) rfl (by simp [Value.oneCell'])) F.gr.size (fun wm G g u => hS2.gr (Below.upd g (Nat.le_refl _) u)) (fun aa60 co aT aU cp ag dn cq dp al aA dq aB dr => ?_))
   obtain ⟨al, hzhb69⟩ := al
   have cr := gr_site GI13 aO hB
   have cs := gb_gb fgbI13 aO
   have ct := cr.trans aA
   have cu := gb_gr cs aA
   have cx : w0.heap.size ≤ aU := Nat.le_trans GI13.size al
   have cy : w.heap.size ≤ aU := Nat.le_trans (fgbI13.size) al
   have cz : Gr w0 aT := Below.upd ct cx aB
   have cA := gb_upd cu aB cy
   have cB := hzhb69 co aT aA aB
   refine t_val (i := 27) (by kernel_rfl) rfl cp rfl (wn _ rfl) rfl (o_as cq) (fun ds H => ?_)
   refine wpAny_done (by kernel_rfl) ?_ _
   refine th_n (bm _ _ (wp_seq_k (fun dt cC => (wp_region_lit (sw H.ok (o_mv H.at_) (fun du I => ?_))))))
   refine sw I.ok (o_neq (b := false) I.at_ ev_const (by decide)) (fun dv J => ?_)
   refine wpList_nil (th_n (cC _ _ (wp_cond_false (J.at_) ?_)))
   refine wp_skip (ib_n (th_n (aH _ _ (wp_region_lit ?_))))
   have cD := J.n (I.n (H.n ((ag 15 rfl rfl rfl).trans ((F.old 15 rfl).trans (n.n (B.n (A.n (t.n (D.n (C.n (l.n ai)))))))))))
   refine sw J.ok (o_add (r := ((i + 1 : Nat) : Int)) cD ev_const (by omega) (by omega)) (fun dx U => ?_)
   refine sw U.ok (o_mv U.at_) (fun dy V => ?_)
   refine wpList_nil ?_
   have cE := V.n (U.n (J.n (I.n (H.n ((ag 0 rfl rfl rfl).trans ((F.old 0 rfl).trans aK))))))
   have cF := V.n (U.n (J.n (I.n (H.n ((ag 4 rfl rfl rfl).trans ((F.old 4 rfl).trans (n.n (B.n (A.n (t.n (D.n (C.n (l.n aF)))))))))))))
   have cG := V.n (U.n (J.n (I.n (H.n ((ag 13 rfl rfl rfl).trans ((F.old 13 rfl).trans (n.n (B.n (A.n (t.n (D.n (C.n (l.n an)))))))))))))
   have cH := V.n (U.n (J.n (I.n (H.n ((ag 14 rfl rfl rfl).trans ((F.old 14 rfl).trans (n.n (B.n (A.n (t.n (D.n (C.n (l.n ao)))))))))))))
   exact th_n (hKI13 _ _ _ (by omega) ⟨i + 1, mkS S ((id4 (wi xh48 4))) ((wi xh50 16 : Nat) : Int) ((wi xh52 32 : Nat) : Int) ((wi xh54 1000 : Nat) : Int), rfl, V.ok, cz, cE, cF, cG, cH, V.at_, cA, cB, by omega, hI2, (show S.made + 1 ≤ _ by have := hmI13; omega), hEI13.step _ _ _ _⟩)
 ·refine wp_cond_false ((l.at_).trans (congrArg Value.bool (decide_eq_false aG))) ?_
  refine wp_exit (th_x (th_x (ib_x (th_n (aY _ _ (wp_seq_k (fun dz cI => (wp_region_lit (sw l.ok (o_as ev_const) (fun dA aV => ?_))))))))))
  refine wpList_nil (th_n (cI _ _ (wp_ret (ret1 aV.ok rfl (aV.at_) ⟨rfl, S, fSbI13, hII13, (by have := hmI13; omega), hEI13, fgbI13⟩))))
theorem makes_ok (b : Nat) (S0 : SiD) (v : Value) (L : List (List Int)) (w0 w : World) (hG : Gr w0 w) (hB : w0.heap.size ≤ b) (hS : SiteAt w b S0) (hI : MkI S0) (hmd : S0.made ≤ 20) (hL : RdLL w0 v L) :
  Calls Tryz.prog 53 #[.pointer (some ⟨b, 0, none⟩), v] w fun e w' => e = .returned (.bool true) ∧ ∃ S, SiteAt w' b S ∧ MkI S ∧ S.made ≤ S0.made + 12 ∧ SameE S0 S ∧ w.grownBy w' (some b) := by
 obtain ⟨a, c, rfl, hc, h⟩ := hL
 exact makes_k b S0 a c L hc w0 w hG hB hS hI hmd h
theorem two_any (u0 u1 : Value) (T0 T1 : Nat → Nat) (w : World) (hf0 : FS w u0 T0) (hf1 : FS w u1 T1) :
  Calls Tryz.prog 51 #[u0, u1] w fun e w' => ∃ b0 b1, e = .returned (.tuple #[.pointer (some ⟨b0, 0, none⟩), .pointer (some ⟨b1, 0, none⟩), .bool true]) ∧ w.heap.size ≤ b0 ∧ b0 < b1 ∧ SiteAt w' b0 ⟨0, 0, 0, T0, [], []⟩ ∧ SiteAt w' b1 ⟨1, 0, 0, T1, [], []⟩ ∧ Gr w w' := by
 refine enter (N := 29) Tryz.func51 rfl rfl rfl (fun T ok0 J => ?_)
 have X : T.eval (.tmp 0) = u0 := J 0 _ rfl
 have Y : T.eval (.tmp 1) = u1 := J 1 _ rfl
 clear J
 have U := Gr.refl w
 refine wp_seq_k (fun K1 Z => (wp_region_lit (sw ok0 (o_as ev_const) (fun aq K => ?_))))
 refine sw K.ok (o_as ev_const) (fun ar L => ?_)
 refine sw L.ok (o_as ev_const) (fun au M => ?_)
 refine wpList_nil (th_n (Z _ _ (wp_seq_k (fun K5 aa => (wp_region_lit ?_)))))
 have e6 := M.n (L.n (K.n X))
 refine sw M.ok (o_mv e6) (fun ax O => ?_)
 refine sc O.ok rfl (wn _ rfl) rfl (o_f2 Tryz.func15 rfl rfl rfl ev_const O.at_) (snew_ok 0 (by omega) u0 T0 w (hf0.gr U)) ?_
 rintro _ w9 ⟨b0, rfl, hge0, hs0, ad⟩
 refine ⟨_, rfl, fun ay S => ?_⟩
 have V := U.trans ad
 refine sw S.ok (o_mv S.at_) (fun az y => ?_)
 refine sw y.ok (o_ex y.at_ rfl) (fun aA z => ?_)
 refine sw z.ok (o_ex (z.n y.at_) rfl) (fun aB A => ?_)
 refine sw A.ok (o_as (A.n z.at_)) (fun aC B => ?_)
 refine sw B.ok (o_as (B.n A.at_)) (fun aD C => ?_)
 refine wpList_nil (th_n (aa _ _ (wp_seq_k (fun aE af => (wp_region_lit ?_)))))
 have ag := C.n (B.n (A.n (z.n (y.n (S.n (O.n (M.n (L.n (K.n Y)))))))))
 refine sw C.ok (o_mv ag) (fun aF D => ?_)
 refine sc D.ok rfl (wn _ rfl) rfl (o_f2 Tryz.func15 rfl rfl rfl ev_const D.at_) (snew_ok 1 (by omega) u1 T1 w9 (hf1.gr V)) ?_
 rintro _ aG ⟨b1, rfl, hge1, hs1, W⟩
 have hlt01 : b0 < b1 := Nat.lt_of_lt_of_le hs0.lt hge1
 refine ⟨_, rfl, fun aH E => ?_⟩
 have ah := V.trans W
 have ai := hs0.gr W
 refine sw E.ok (o_mv E.at_) (fun aI g => ?_)
 refine sw g.ok (o_ex g.at_ rfl) (fun aJ h => ?_)
 refine sw h.ok (o_ex (h.n g.at_) rfl) (fun aK j => ?_)
 refine sw j.ok (o_as (j.n h.at_)) (fun aL l => ?_)
 refine sw l.ok (o_as (l.n j.at_)) (fun aM n => ?_)
 refine wpList_nil (th_n (af _ _ (wp_seq_k (fun aO aj => (wp_region_lit ?_)))))
 have ak := n.n (l.n (j.n (h.n (g.n (E.n (D.n (C.n B.at_)))))))
 refine sw n.ok (o_mv ak) (fun aS o => ?_)
 refine sw o.ok (o_mv (o.n (n.n l.at_))) (fun aT q => ?_)
 have al := q.n (o.n (n.n (l.n (j.n (h.n (g.n (E.n (D.n C.at_))))))))
 refine sw q.ok (o_mv al) (fun aU r => ?_)
 refine sw r.ok (o_eq (b := true) r.at_ ev_const (by decide)) (fun aV t => ?_)
 refine sw t.ok (o_mv t.at_) (fun aW a => ?_)
 have am := a.n (t.n (r.n (q.n (o.n n.at_))))
 refine sv a.ok rfl (wgT rfl (yl 4 true rfl a.at_) rfl) rfl (o_mv am) (fun aX c => ?_)
 refine sv c.ok rfl (wgT rfl (yl 4 true rfl (c.n a.at_)) rfl) rfl (o_eq (b := true) c.at_ ev_const (by decide)) (fun aY u => ?_)
 refine sw u.ok (o_pkT (u.n (c.n a.at_)) u.at_) (fun aZ F => ?_)
 have an := F.n (u.n (c.n (a.n (t.n (r.n (q.n o.at_))))))
 refine sw F.ok (o_as an) (fun a1 G => ?_)
 have ao := G.n (F.n (u.n (c.n (a.n (t.n (r.n q.at_))))))
 refine sw G.ok (o_as ao) (fun a2 H => ?_)
 refine sw H.ok (o_as (H.n (G.n F.at_))) (fun a3 I => ?_)
 refine wpList_nil (th_n (aj _ _ (wp_ret (ret3 I.ok rfl ((I.n (H.n G.at_))) ((I.n H.at_)) (I.at_) ⟨b0, b1, rfl, hge0, hlt01, ai, hs1, ah⟩))))
end Go.Proofs.YtglbnggkkjhokaaGreat
/- Sites: checkBatch, Take where it is refused, siteBegun. -/
namespace Go.Proofs.YtglbnggkkjhokaaGreat
open Go.RowKit Rm Gx
structure BatOk (K1 K2 : List VerI) : Prop where
  l1 : K1.length ≤ 60
  l2 : K2.length ≤ 60
  o1 : ∀ x ∈ K1, chkOne x.d = 0
  o2 : ∀ x ∈ K2, chkOne x.d = 0
theorem BatOk.of {S : SiD} {K1 K2 : List VerI} {p q : VerD → Bool} (h : OkS S.L) (h1 : K1.map VerI.d = S.L.filter p) (h2 : K2.map VerI.d = S.L.filter q) : BatOk K1 K2 where
 l1 := by have e := congrArg List.length h1; rw [List.length_map] at e; have := List.length_filter_le p S.L; have := h.len; omega
 l2 := by have e := congrArg List.length h2; rw [List.length_map] at e; have := List.length_filter_le q S.L; have := h.len; omega
 o1 := fun x hx => h.one _ (List.mem_filter.1 (h1 ▸ List.mem_map_of_mem (f := VerI.d) hx)).1
 o2 := fun x hx => h.one _ (List.mem_filter.1 (h2 ▸ List.mem_map_of_mem (f := VerI.d) hx)).1
theorem GL.gr {base : Nat} {w w' : World} {v : Value} {K : List VerI} (h : GL base w v K) (g : Gr w w') : GL base w' v K := h.tkw (tkw_gr g)
theorem ResK.gr {base : Nat} {w w' : World} {v : Value} {K : List VerI} (h : ResK base w v K) (g : Gr w w') : ResK base w' v K := h.tkw (tkw_gr g)
theorem id_ok {x : VerD} (h : chkOne x = 0) (w : World) : Calls Tryz.prog 130 #[.string (bs x.id)] w fun e w' => e = .returned (.bool true) ∧ Gr w w' := by
 have k := id_any x.id w
 rw [(chkOne_zero h).1] at k
 exact k
theorem kchk_ok {x : VerI} (h : chkOne x.d = 0) (w : World) (hm : MeanV w x) : Calls Tryz.prog 131 #[.agg #[.slice x.va x.d.V.length x.vc, .slice x.ma x.d.M.length x.mc]] w fun e w' => e = .returned (.int .i64 0) ∧ Gr w w' := by
 have k := kcheck_any _ x.d.V x.d.M w hm
 rw [(chkOne_zero h).2.2.1] at k
 exact k
theorem vone_ok {x : VerI} (h : chkOne x.d = 0) (w : World) (hm : MeanV w x) : Calls Tryz.prog 77 #[.agg #[.string (bs x.d.id), .int .i64 (x.d.s), .int .i64 (x.d.c), .int .i64 (x.d.t), .int .i64 (x.d.n), .int .i64 (x.d.b), .slice x.va x.d.V.length x.vc, .slice x.ma x.d.M.length x.mc]] w fun e w' => e = .returned (.int .i64 0) ∧ Gr w w' := by
 have k := vone_any x w hm
 rw [h] at k
 exact k
theorem o_eqNil {ev : Operand → Value} {w : World} {d : Option Tmp} {ty : TypeId} {p : String} {af : Array Edge} {g : Option (Nat × Bool)} {t t' : TypeId} {x y : Operand} {a : Addr} (hx : ev x = .pointer (some a)) (hy : ev y = .pointer none) (hu : Tryz.prog.underlying t = some (.pointer (Tryz.prog.pointee t))) : (execOp ev (Oper.mk d (.binOp .eql t x y t') ty p af g)).run Tryz.prog w = .ok (.value (.bool false)) w := by
 unfold execOp
 simp only [hx, hy, eqGuard, binOp, Sem.run_bind, run_equal_pointer_nil _ _ _ hu, Sem.run_pure, Result.andThen_ok]
 rfl
theorem mkS_one {S : SiD} (h : MkI S) {id : List UInt8} {t n d : Int} (hone : chkOne (newD S id t n d) = 0) (hL : S.L = []) : (mkS S id t n d).L.length = 1 := by
 have e := (h.put hone).2
 show (putL S.L (newD S id t n d)).length = 1
 rw [e, svIns_len, hL]
 rfl
theorem checkBatch_ok (m2 s2 : Nat) (Ka Kb : List VerI) (E : List PtX) (ra ga na : Option Addr) (rc gc nc : Nat) (hm2 : m2 < 5) (hEl : E.length ≤ 30) (hbat : BatOk Ka Kb) (w : World) (hk1 : ResK 0 w (.slice ra (List.length Ka) rc) Ka) (hk2 : GL 0 w (.slice ga (List.length Kb) gc) Kb) (hE : PL 0 w (.slice na (List.length E) nc) E) :
  Calls Tryz.prog 98 #[.agg #[.int .i64 (m2 : Int), .int .i64 (s2 : Int), .slice ra (List.length Ka) rc, .slice ga (List.length Kb) gc, .slice na (List.length E) nc]] w fun e w' => e = .returned (.int .i64 0) ∧ Gr w w' := by
 refine enter (N := 62) Tryz.func98 rfl rfl rfl (fun a0 ok0 h0 => ?_)
 have bB : a0.eval (.tmp 0) = .agg #[.int .i64 (m2 : Int), .int .i64 (s2 : Int), .slice ra (List.length Ka) rc, .slice ga (List.length Kb) gc, .slice na (List.length E) nc] := h0 0 _ rfl
 clear h0
 have G0 := Gr.refl w
 have hl1 := hbat.l1
 have hl2 := hbat.l2
 refine wp_seq_k (fun K1 bD => (wp_region_lit (sal (cs := #[.int .i64 (m2 : Int), .int .i64 (s2 : Int), .slice ra (List.length Ka) rc, .slice ga (List.length Kb) gc, .slice na (List.length E) nc]) ok0 rfl (wn _ rfl) rfl (o_box bB) (fun c1 w4 b3 W5 n2 => ?_))))
 have G7 := G0.trans W5.gr
 refine sw n2.ok (o_as ev_const) (fun c2 n8 => ?_)
 refine wpList_nil (th_n (bD _ _ (wp_seq_k (fun K9 bG => (wp_seq_k (fun c4 bH => (wp_region_lit (sw n8.ok (o_fa (z := 1) (n8.n n2.at_) Tryz.underlying63 rfl (by kernel_rfl) rfl rfl) (fun c5 ay => ?_)))))))))
 refine sw ay.ok (o_ld ay.at_ (Tryz.isAgg3 _) (W5.bk.cell _ rfl)) (fun c6 az => ?_)
 refine sc az.ok rfl (wn _ rfl) rfl (o_f1 Tryz.func67 rfl rfl rfl az.at_) (isSite_ok m2 hm2 w4) ?_
 rintro _ c7 ⟨rfl, a1⟩
 refine ⟨_, rfl, fun c8 aA => ?_⟩
 have bI := G7.trans a1
 have am := W5.bk.gr a1
 refine sw aA.ok (o_not aA.at_ rfl) (fun c9 aB => ?_)
 refine sw aB.ok (o_mv aB.at_) (fun da A => ?_)
 have a2 := A.n (aB.n (aA.n (az.n (ay.n (n8.n n2.at_)))))
 refine sv A.ok rfl (wgT rfl (yl 4 false rfl A.at_) rfl) rfl (o_fa (z := 1) a2 Tryz.underlying63 rfl (by kernel_rfl) rfl rfl) (fun db B => ?_)
 refine sv B.ok rfl (wgT rfl (yl 4 false rfl (B.n A.at_)) rfl) rfl (o_ld B.at_ (Tryz.isAgg3 _) (am.cell _ rfl)) (fun dc ab => ?_)
 refine sv ab.ok rfl (wgT rfl (yl 4 false rfl (ab.n (B.n A.at_))) rfl) rfl (o_lss ab.at_ ev_const (decide_eq_false (show ¬ (s2 : Int) < 0 by omega))) (fun dd an => ?_)
 have bJ := an.n (ab.n (B.n A.at_))
 refine sw an.ok (o_pkF bJ an.at_) (fun df aC => ?_)
 refine wpList_nil (th_n (bH _ _ (wp_cond_false (aC.at_) ?_)))
 refine wp_skip (th_n (bG _ _ (wp_seq_k (fun dg bK => (wp_seq_k (fun dh bL => (wp_region_lit ?_)))))))
 have a3 := aC.n (an.n (ab.n (B.n a2)))
 refine sw aC.ok (o_fa (z := 1) a3 Tryz.underlying63 rfl (by kernel_rfl) rfl rfl) (fun di aD => ?_)
 refine sw aD.ok (o_ld aD.at_ (Tryz.isAgg41 _) (am.cell _ rfl)) (fun dj aE => ?_)
 refine sw aE.ok (o_len aE.at_ Tryz.underlying41) (fun dk aF => ?_)
 refine sw aF.ok (o_gtr aF.at_ ev_const (decide_eq_false (show ¬ ((List.length Ka : Nat) : Int) > 60 by have := hbat.l1; omega))) (fun dl aG => ?_)
 refine sw aG.ok (o_mv aG.at_) (fun dm C => ?_)
 have a4 := C.n (aG.n (aF.n (aE.n (aD.n a3))))
 refine sv C.ok rfl (wgT rfl (yl 4 false rfl C.at_) rfl) rfl (o_fa (z := 1) a4 Tryz.underlying63 rfl (by kernel_rfl) rfl rfl) (fun dn D => ?_)
 refine sv D.ok rfl (wgT rfl (yl 4 false rfl (D.n C.at_)) rfl) rfl (o_ld D.at_ (Tryz.isAgg61 _) (am.cell _ rfl)) (fun dp ac => ?_)
 refine sv ac.ok rfl (wgT rfl (yl 4 false rfl (ac.n (D.n C.at_))) rfl) rfl (o_len ac.at_ Tryz.underlying61) (fun dq ao => ?_)
 have a6 := ao.n (ac.n (D.n C.at_))
 refine sv ao.ok rfl (wgT rfl (yl 4 false rfl a6) rfl) rfl (o_gtr ao.at_ ev_const (decide_eq_false (show ¬ ((List.length Kb : Nat) : Int) > 60 by have := hbat.l2; omega))) (fun dr ap => ?_)
 refine sw ap.ok (o_pkF (ap.n a6) ap.at_) (fun ds aH => ?_)
 refine wpList_nil (th_n (bL _ _ (wp_cond_false (aH.at_) ?_)))
 refine wp_skip (th_n (bK _ _ (wp_seq_k (fun dt bM => (wp_seq_k (fun du bO => (wp_region_lit ?_)))))))
 have a7 := aH.n (ap.n (ao.n (ac.n (D.n a4))))
 refine sw aH.ok (o_fa (z := 1) a7 Tryz.underlying63 rfl (by kernel_rfl) rfl rfl) (fun dv aI => ?_)
 refine sw aI.ok (o_ld aI.at_ (Tryz.isAgg41 _) (am.cell _ rfl)) (fun dx aq => ?_)
 refine sw aq.ok (o_len aq.at_ Tryz.underlying41) (fun dy ar => ?_)
 refine sw ar.ok (o_mv ev_const) (fun dz ad => ?_)
 refine wpList_nil (th_n (bO _ _ (wp_block ?_)))
 have bS := ad.n (ar.n (aq.n (aI.n a7)))
 have bT := ad.n (ar.n (aq.n (aI.n (aH.n (ap.n (ao.n (ac.n (D.n (C.n (aG.n (aF.n (aE.n (aD.n (aC.n (an.n (ab.n (B.n (A.n (aB.n (aA.n (az.n (ay.n n8.at_))))))))))))))))))))))
 refine lp (fun (nL : Nat) (aL : Act) (wL : World) => ∃ i : Nat, nL = Ka.length - i ∧ Ok 62 aL ∧ Gr w wL ∧ (aL.eval (.tmp 1) = .pointer (some ⟨b3, 0, none⟩)) ∧ (aL.eval (.tmp 2) = .int .i64 0) ∧ (aL.eval (.tmp 29) = .slice ra (List.length Ka) rc) ∧ (aL.eval (.tmp 30) = .int .i64 (((List.length Ka) : Nat) : Int)) ∧ (aL.eval (.tmp 31) = .int .i64 (i : Int)) ∧ (Bk wL b3 #[.int .i64 (m2 : Int), .int .i64 (s2 : Int), .slice ra (List.length Ka) rc, .slice ga (List.length Kb) gc, .slice na (List.length E) nc] 63) ∧ (i ≤ Ka.length)) _ ⟨0, rfl, ad.ok, bI, bS, bT, (ad.n (ar.n aq.at_)), (ad.n ar.at_), ad.at_, am, by omega⟩ ?_
 rintro dA dB dC ⟨i, hmI48, okI48, GI48, aS, a8, a9, ba, aT, kb3I48, hiI48⟩ KI48 hKI48
 refine wp_seq_k (fun dD bU => (wp_region_lit (sw okI48 (o_ltI aT ba) (fun dE a => ?_))))
 refine wpList_nil (th_n (bU _ _ (wp_seq_k (fun dF bV => ?_))))
 by_cases bb : (i : Int) < (((List.length Ka) : Nat) : Int)
 ·refine wp_cond_true ((a.at_).trans (congrArg Value.bool (decide_eq_true bb))) ?_
  refine wp_skip (th_n (bV _ _ (wp_seq_k (fun dG bW => (wp_block (wp_seq_k (fun dH bX => (wp_region_lit ?_))))))))
  have aU : i < List.length Ka := by omega
  obtain ⟨bh60, fh60, bY, bZ, b0⟩ := (RdA.own encVr_ok hk1.1 rfl) (ne_nil_of_lt aU)
  obtain ⟨xh60, aV⟩ : ∃ x, (Ka)[i]? = some x := ⟨_, List.getElem?_eq_getElem aU⟩
  refine sw a.ok (o_iaV (i := i) (s := 8) bY (a.n a9) (a.n aT) Tryz.underlying41 (by kernel_rfl) aU) (fun dI F => ?_)
  refine sw F.ok (o_ldA (k := fh60 + i * 8) F.at_ (cs := [.string (bs xh60.d.id), .int .i64 (xh60.d.s), .int .i64 (xh60.d.c), .int .i64 (xh60.d.t), .int .i64 (xh60.d.n), .int .i64 (xh60.d.b), .slice xh60.va xh60.d.V.length xh60.vc, .slice xh60.ma xh60.d.M.length xh60.mc]) (fun j v hv => (Below.cell GI48 bZ).trans (b0 _ _ aV j v hv)) Tryz.underlying106 rfl (by kernel_rfl)) (fun dJ G => ?_)
  refine sal (cs := #[.string (bs []), .int .i64 0, .int .i64 0, .int .i64 0, .int .i64 0, .int .i64 0, .slice none 0 0, .slice none 0 0]) G.ok rfl (wn _ rfl) rfl (o_al (z := .agg #[.string (bs []), .int .i64 0, .int .i64 0, .int .i64 0, .int .i64 0, .int .i64 0, .slice none 0 0, .slice none 0 0]) (by kernel_rfl)) (fun dK dL bc af l => ?_)
  have b1 : b3 < bc := by rw [af.eq]; exact kb3I48.lt
  have b2 : w.heap.size ≤ bc := by rw [af.eq]; exact GI48.size
  have b4 := GI48.trans af.gr
  have b5 := kb3I48.gr af.gr
  refine ssR rfl (wn _ rfl) (o_stR l.at_ (l.n G.at_) af.bk (by kernel_rfl) rfl (by first | (simp [Value.oneCell']; done) | (rw [← Array.all_toList]; simp [Value.oneCell']))) af.bk (fun bd bf b6 => ?_)
  have bg : Gr w bd := Below.upd b4 b2 bf
  have b7 := b5.upd bf (Nat.ne_of_lt b1)
  refine wpList_nil (th_n (bX _ _ (wp_seq_k (fun dM b8 => (wp_region_lit (sw l.ok (o_ldR l.at_ b6 Tryz.underlying106 rfl (by kernel_rfl)) (fun dO H => ?_)))))))
  refine sc H.ok rfl (wn _ rfl) rfl (o_f1 Tryz.func77 rfl rfl rfl H.at_) (vone_ok (hbat.o1 _ (List.mem_of_getElem? aV)) bd (OwnsVr.mean (hk1.gr bg).2 _ (List.mem_of_getElem? aV))) ?_
  rintro _ dS ⟨rfl, bh⟩
  refine ⟨_, rfl, fun dT I => ?_⟩
  have b9 := bg.trans bh
  have ca := b7.gr bh
  refine sw I.ok (o_as I.at_) (fun dU J => ?_)
  refine wpList_nil (th_n (b8 _ _ (wp_seq_k (fun dV cb => (wp_region_lit (sw J.ok (o_mv J.at_) (fun dW K => ?_)))))))
  refine sw K.ok (o_neq (b := false) K.at_ ev_const (by decide)) (fun dX L => ?_)
  refine wpList_nil (th_n (cb _ _ (wp_cond_false (L.at_) ?_)))
  refine wp_skip (ib_n (th_n (bW _ _ (wp_region_lit ?_))))
  have cc := L.n (K.n (J.n (I.n (H.n (l.n (G.n (F.n (a.n aT))))))))
  refine sw L.ok (o_add (r := ((i + 1 : Nat) : Int)) cc ev_const (by omega) (by omega)) (fun dY ag => ?_)
  refine sw ag.ok (o_mv ag.at_) (fun dZ ah => ?_)
  refine wpList_nil ?_
  have cd := ah.n (ag.n (L.n (K.n (J.n (I.n (H.n (l.n (G.n (F.n (a.n aS))))))))))
  have cf := ah.n (ag.n (L.n (K.n (J.n (I.n (H.n (l.n (G.n (F.n (a.n a8))))))))))
  have cg := ah.n (ag.n (L.n (K.n (J.n (I.n (H.n (l.n (G.n (F.n (a.n a9))))))))))
  have ch := ah.n (ag.n (L.n (K.n (J.n (I.n (H.n (l.n (G.n (F.n (a.n ba))))))))))
  exact th_n (hKI48 _ _ _ (by omega) ⟨i + 1, rfl, ah.ok, b9, cd, cf, cg, ch, ah.at_, ca, by omega⟩)
 ·refine wp_cond_false ((a.at_).trans (congrArg Value.bool (decide_eq_false bb))) ?_
  refine wp_exit (th_x (th_x (ib_x (th_n (bM _ _ (wp_seq_k (fun d0 ci => (wp_seq_k (fun d1 cj => (wp_region_lit (sw a.ok (o_fa (z := 1) (a.n aS) Tryz.underlying63 rfl (by kernel_rfl) rfl rfl) (fun d2 aJ => ?_))))))))))))
  refine sw aJ.ok (o_ld aJ.at_ (Tryz.isAgg61 _) (kb3I48.cell _ rfl)) (fun d3 au => ?_)
  refine sw au.ok (o_len au.at_ Tryz.underlying61) (fun d4 av => ?_)
  refine sw av.ok (o_mv ev_const) (fun d5 ai => ?_)
  refine wpList_nil (th_n (cj _ _ (wp_block ?_)))
  have ck := ai.n (av.n (au.n (aJ.n (a.n aS))))
  have cl := ai.n (av.n (au.n (aJ.n (a.n a8))))
  refine lp (fun (nL : Nat) (aL : Act) (wL : World) => ∃ j : Nat, nL = Kb.length - j ∧ Ok 62 aL ∧ Gr w wL ∧ (aL.eval (.tmp 1) = .pointer (some ⟨b3, 0, none⟩)) ∧ (aL.eval (.tmp 2) = .int .i64 0) ∧ (aL.eval (.tmp 42) = .slice ga (List.length Kb) gc) ∧ (aL.eval (.tmp 43) = .int .i64 (((List.length Kb) : Nat) : Int)) ∧ (aL.eval (.tmp 44) = .int .i64 (j : Int)) ∧ (Bk wL b3 #[.int .i64 (m2 : Int), .int .i64 (s2 : Int), .slice ra (List.length Ka) rc, .slice ga (List.length Kb) gc, .slice na (List.length E) nc] 63) ∧ (j ≤ Kb.length)) _ ⟨0, rfl, ai.ok, GI48, ck, cl, (ai.n (av.n au.at_)), (ai.n av.at_), ai.at_, kb3I48, by omega⟩ ?_
  rintro d6 d7 cm ⟨j, hmI100, okI100, GI100, bi, cn, bj, bl, aW, kb3I100, hjI100⟩ KI100 hKI100
  refine wp_seq_k (fun d8 co => (wp_region_lit (sw okI100 (o_ltI aW bl) (fun d9 g => ?_))))
  refine wpList_nil (th_n (co _ _ (wp_seq_k (fun fa cp => ?_))))
  by_cases bm : (j : Int) < (((List.length Kb) : Nat) : Int)
  ·refine wp_cond_true ((g.at_).trans (congrArg Value.bool (decide_eq_true bm))) ?_
   refine wp_skip (th_n (cp _ _ (wp_seq_k (fun fb cq => (wp_block (wp_seq_k (fun fc cr => (wp_region_lit ?_))))))))
   have aX : j < List.length Kb := by omega
   obtain ⟨bh112, fh112, ct, cu, cx⟩ := (RdA.own encGn_ok hk2.1 rfl) (ne_nil_of_lt aX)
   obtain ⟨xh112, aK⟩ : ∃ x, (Kb)[j]? = some x := ⟨_, List.getElem?_eq_getElem aX⟩
   refine sw g.ok (o_iaV (i := j) (s := 3) ct (g.n bj) (g.n aW) Tryz.underlying61 (by kernel_rfl) aX) (fun ff O => ?_)
   refine sw O.ok (o_ldA (k := fh112 + j * 3) O.at_ (cs := [.string (bs xh112.d.id), .slice xh112.va xh112.d.V.length xh112.vc, .slice xh112.ma xh112.d.M.length xh112.mc]) (fun j v hv => (Below.cell GI100 cu).trans (cx _ _ aK j v hv)) Tryz.underlying77 rfl (by kernel_rfl)) (fun fg S => ?_)
   refine sal (cs := #[.string (bs []), .slice none 0 0, .slice none 0 0]) S.ok rfl (wn _ rfl) rfl (o_al (z := .agg #[.string (bs []), .slice none 0 0, .slice none 0 0]) (by kernel_rfl)) (fun fh fi bn aj h => ?_)
   have cy : b3 < bn := by rw [aj.eq]; exact kb3I100.lt
   have cz : w.heap.size ≤ bn := by rw [aj.eq]; exact GI100.size
   have cA := GI100.trans aj.gr
   have cB := kb3I100.gr aj.gr
   refine ssR rfl (wn _ rfl) (o_stR h.at_ (h.n S.at_) aj.bk (by kernel_rfl) rfl (by first | (simp [Value.oneCell']; done) | (rw [← Array.all_toList]; simp [Value.oneCell']))) aj.bk (fun bo bp bq => ?_)
   have cC : Gr w bo := Below.upd cA cz bp
   have cD := cB.upd bp (Nat.ne_of_lt cy)
   refine wpList_nil (th_n (cr _ _ (wp_seq_k (fun fj cE => (wp_seq_k (fun fk cF => (wp_region_lit (sw h.ok (o_fa (z := 1) h.at_ Tryz.underlying77 rfl (by kernel_rfl) rfl rfl) (fun fl o => ?_)))))))))
   refine sw o.ok (o_ld o.at_ (Tryz.isAgg9 _) (bq.cell _ rfl)) (fun fm q => ?_)
   refine sc q.ok rfl (wn _ rfl) rfl (o_f1 Tryz.func130 rfl rfl rfl q.at_) (id_ok (hbat.o2 _ (List.mem_of_getElem? aK)) bo) ?_
   rintro _ cG ⟨rfl, aY⟩
   refine ⟨_, rfl, fun fn u => ?_⟩
   have br := cC.trans aY
   have cH := cD.gr aY
   have cI := bq.gr aY
   refine sw u.ok (o_not u.at_ rfl) (fun fo y => ?_)
   refine wpList_nil (th_n (cF _ _ (wp_cond_false (y.at_) ?_)))
   refine wp_skip (th_n (cE _ _ (wp_seq_k (fun fp cJ => (wp_region_lit ?_)))))
   have cK := y.n (u.n (q.n (o.n h.at_)))
   refine sw y.ok (o_fa (z := 2) cK Tryz.underlying77 rfl (by kernel_rfl) rfl rfl) (fun fq T => ?_)
   refine sw T.ok (o_ldA (k := 1) (cs := [.slice xh112.va xh112.d.V.length xh112.vc, .slice xh112.ma xh112.d.M.length xh112.mc]) T.at_ (bk_part cI rfl) Tryz.underlying75 rfl (by kernel_rfl)) (fun fr U => ?_)
   refine sc U.ok rfl (wn _ rfl) rfl (o_f1 Tryz.func131 rfl rfl rfl U.at_) (kchk_ok (hbat.o2 _ (List.mem_of_getElem? aK)) cG (OwnsVr.mean (hk2.gr br).2 _ (List.mem_of_getElem? aK))) ?_
   rintro _ ft ⟨rfl, bt⟩
   refine ⟨_, rfl, fun fu W => ?_⟩
   have cL := br.trans bt
   have cM := cH.gr bt
   refine sw W.ok (o_as W.at_) (fun fv X => ?_)
   refine wpList_nil (th_n (cJ _ _ (wp_seq_k (fun fx cO => (wp_region_lit (sw X.ok (o_mv X.at_) (fun fy Y => ?_)))))))
   refine sw Y.ok (o_neq (b := false) Y.at_ ev_const (by decide)) (fun fz Z => ?_)
   refine wpList_nil (th_n (cO _ _ (wp_cond_false (Z.at_) ?_)))
   refine wp_skip (ib_n (th_n (cq _ _ (wp_region_lit ?_))))
   have cS := Z.n (Y.n (X.n (W.n (U.n (T.n (y.n (u.n (q.n (o.n (h.n (S.n (O.n (g.n aW)))))))))))))
   refine sw Z.ok (o_add (r := ((j + 1 : Nat) : Int)) cS ev_const (by omega) (by omega)) (fun fA ak => ?_)
   refine sw ak.ok (o_mv ak.at_) (fun fB al => ?_)
   refine wpList_nil ?_
   have cT := al.n (ak.n (Z.n (Y.n (X.n (W.n (U.n (T.n (y.n (u.n (q.n (o.n (h.n (S.n (O.n (g.n bi)))))))))))))))
   have cU := al.n (ak.n (Z.n (Y.n (X.n (W.n (U.n (T.n (y.n (u.n (q.n (o.n (h.n (S.n (O.n (g.n cn)))))))))))))))
   have cV := al.n (ak.n (Z.n (Y.n (X.n (W.n (U.n (T.n (y.n (u.n (q.n (o.n (h.n (S.n (O.n (g.n bj)))))))))))))))
   have cW := al.n (ak.n (Z.n (Y.n (X.n (W.n (U.n (T.n (y.n (u.n (q.n (o.n (h.n (S.n (O.n (g.n bl)))))))))))))))
   exact th_n (hKI100 _ _ _ (by omega) ⟨j + 1, rfl, al.ok, cL, cT, cU, cV, cW, al.at_, cM, by omega⟩)
  ·refine wp_cond_false ((g.at_).trans (congrArg Value.bool (decide_eq_false bm))) ?_
   refine wp_exit (th_x (th_x (ib_x (th_n (ci _ _ (wp_seq_k (fun fC cX => (wp_region_lit (sw g.ok (o_fa (z := 1) (g.n bi) Tryz.underlying63 rfl (by kernel_rfl) rfl rfl) (fun fD bu => ?_))))))))))
   refine sw bu.ok (o_ld bu.at_ (Tryz.isAgg32 _) (kb3I100.cell _ rfl)) (fun fE bv => ?_)
   refine sc bv.ok rfl (wn _ rfl) rfl (o_f1 Tryz.func116 rfl rfl rfl bv.at_) (pcheck_pl _ E cm hEl (hE.gr GI100)) ?_
   rintro _ fF ⟨rfl, cY⟩
   refine ⟨_, rfl, fun fG bx => ?_⟩
   have cZ := GI100.trans cY
   refine sw bx.ok (o_as bx.at_) (fun fH bz => ?_)
   refine wpList_nil (th_n (cX _ _ (wp_ret (ret1 bz.ok rfl (bz.at_) ⟨rfl, cZ⟩))))
theorem stake_arg (b : Nat) (S : SiD) (m2 s2 : Nat) (Ka Kb : List VerI) (E : List PtX) (ra ga na : Option Addr) (rc gc nc : Nat) (hm2 : m2 < 5) (hEl : E.length ≤ 30) (hbat : BatOk Ka Kb) (hme : ¬ m2 = S.me) (w : World) (hS : SiteAt w b S) (hk1 : ResK 0 w (.slice ra (List.length Ka) rc) Ka) (hk2 : GL 0 w (.slice ga (List.length Kb) gc) Kb) (hE : PL 0 w (.slice na (List.length E) nc) E) :
  Calls Tryz.prog 39 #[.pointer (some ⟨b, 0, none⟩), .agg #[.int .i64 (m2 : Int), .int .i64 (s2 : Int), .slice ra (List.length Ka) rc, .slice ga (List.length Kb) gc, .slice na (List.length E) nc]] w fun e w' => e = .returned (.int .i64 1) ∧ Gr w w' := by
 refine enter (N := 65) Tryz.func39 rfl rfl rfl (fun A ok0 t => ?_)
 have D : A.eval (.tmp 0) = .pointer (some ⟨b, 0, none⟩) := t 0 _ rfl
 have F : A.eval (.tmp 1) = .agg #[.int .i64 (m2 : Int), .int .i64 (s2 : Int), .slice ra (List.length Ka) rc, .slice ga (List.length Kb) gc, .slice na (List.length E) nc] := t 1 _ rfl
 clear t
 have G := Gr.refl w
 obtain ⟨fa, fn, fc, sa, sn, sq, la, lc, hb, hF, hR, hP⟩ := hS
 refine wp_seq_k (fun K1 H => (wp_region_lit (sal (cs := #[.int .i64 (m2 : Int), .int .i64 (s2 : Int), .slice ra (List.length Ka) rc, .slice ga (List.length Kb) gc, .slice na (List.length E) nc]) ok0 rfl (wn _ rfl) rfl (o_box F) (fun am I B a c => ?_))))
 have g := G.trans a.gr
 have J := hb.gr a.gr
 refine sw c.ok (o_as ev_const) (fun an j => ?_)
 refine wpList_nil (th_n (H _ _ (wp_seq_k (fun ao K => (wp_seq_k (fun ap M => (wp_region_lit (sw j.ok (o_ldR (j.n c.at_) a.bk Tryz.underlying63 rfl (by kernel_rfl)) (fun aq l => ?_)))))))))
 refine sc l.ok rfl (wn _ rfl) rfl (o_f1 Tryz.func98 rfl rfl rfl l.at_) (checkBatch_ok m2 s2 Ka Kb E ra ga na rc gc nc hm2 hEl hbat I (hk1.gr g) (hk2.gr g) (hE.gr g)) ?_
 rintro _ ar ⟨rfl, u⟩
 refine ⟨_, rfl, fun au n => ?_⟩
 have O := g.trans u
 have T := J.gr u
 have U := a.bk.gr u
 refine sw n.ok (o_as n.at_) (fun av o => ?_)
 refine wpList_nil (th_n (M _ _ (wp_seq_k (fun ax V => (wp_region_lit (sw o.ok (o_mv o.at_) (fun ay q => ?_)))))))
 refine sw q.ok (o_neq (b := false) q.at_ ev_const (by decide)) (fun az r => ?_)
 refine wpList_nil (th_n (V _ _ (wp_cond_false (r.at_) ?_)))
 refine wp_skip (th_n (K _ _ (wp_seq_k (fun aA aB => (wp_seq_k (fun aC W => (reg_start (N := 65) (m := 7) (by kernel_rfl) (fun X => ?_))))))))
 have Y := r.n (q.n (o.n (n.n (l.n (j.n c.at_)))))
 have Z := X.snoc (n' := 1) rfl (fun vJ _ => vJ = .pointer (some ⟨B, 0, none⟩)) rfl (fun _ _ _ _ h => h) (fun aS wS pS => by
   exact Does.val (wn _ rfl) (o_fa (z := 1) ((pS.old 3 rfl).trans Y) Tryz.underlying63 rfl (by kernel_rfl) rfl rfl) (Gr.refl _) rfl rfl)
 have aa := Z.snoc (n' := 2) rfl (fun vJ _ => vJ = .int .i64 (m2 : Int)) rfl (fun _ _ _ _ h => h) (fun aS wS pS => by
   have eR26_0 : aS.eval (.tmp 14) = .pointer (some ⟨B, 0, none⟩) := pS.pre 0 rfl
   exact Does.val (wn _ rfl) (o_ld (eR26_0) (Tryz.isAgg3 _) ((Bk.gr U (gr_drew pS.gr)).cell _ rfl)) (Gr.refl _) rfl rfl)
 have ab := r.n (q.n (o.n (n.n (l.n (j.n (c.n D))))))
 have ac := aa.snoc (n' := 3) rfl (fun vJ _ => vJ = .pointer (some ⟨b, 0, none⟩)) rfl (fun _ _ _ _ h => h) (fun aS wS pS => by
   exact Does.val (wn _ rfl) (o_mv ((pS.old 0 rfl).trans ab)) (Gr.refl _) rfl rfl)
 have ad := ac.snoc (n' := 4) rfl (fun vJ _ => vJ = .pointer (some ⟨b, 0, none⟩)) rfl (fun _ _ _ _ h => h) (fun aS wS pS => by
   have eR26_2 : aS.eval (.tmp 16) = .pointer (some ⟨b, 0, none⟩) := pS.pre 2 rfl
   exact Does.val (wn _ rfl) (o_nc (eR26_2)) (Gr.refl _) rfl rfl)
 have af := ad.snoc (n' := 5) rfl (fun vJ _ => vJ = .pointer (some ⟨b, 0, none⟩)) rfl (fun _ _ _ _ h => h) (fun aS wS pS => by
   have eR26_3 : aS.eval (.tmp 17) = .pointer (some ⟨b, 0, none⟩) := pS.pre 3 rfl
   exact Does.val (wn _ rfl) (o_fa (z := 1) (eR26_3) Tryz.underlying125 rfl (by kernel_rfl) rfl rfl) (Gr.refl _) rfl rfl)
 have ag := af.snoc (n' := 6) rfl (fun vJ _ => vJ = .int .i64 ((S.me : Nat) : Int)) rfl (fun _ _ _ _ h => h) (fun aS wS pS => by
   have eR26_4 : aS.eval (.tmp 18) = .pointer (some ⟨b, 0, none⟩) := pS.pre 4 rfl
   exact Does.val (wn _ rfl) (o_ld (eR26_4) (Tryz.isAgg3 _) ((Bk.gr T (gr_drew pS.gr)).cell _ rfl)) (Gr.refl _) rfl rfl)
 have ah := ag.snoc (n' := 7) rfl (fun vJ _ => vJ = .bool true) rfl (fun _ _ _ _ h => h) (fun aS wS pS => by
   have eR26_1 : aS.eval (.tmp 15) = .int .i64 (m2 : Int) := pS.pre 1 rfl
   have eR26_5 : aS.eval (.tmp 19) = .int .i64 ((S.me : Nat) : Int) := pS.pre 5 rfl
   exact Does.val (wn _ rfl) (o_neq (b := true) (eR26_1) (eR26_5) (by simp [show ¬ (m2 : Int) = ((S.me : Nat) : Int) from (show ¬ ((m2 : Nat) : Int) = ((S.me : Nat) : Int) by omega)])) (Gr.refl _) rfl rfl)
 refine ah.run (k := 0) (L := #[true, true, true, true, true, true, true]) (by kernel_rfl) (by kernel_rfl) (by kernel_rfl) r.ok (by kernel_rfl) (by kernel_rfl) (fun ap30 aD y => ?_)
 have ai := gr_drew y.gr
 have aj := O.trans ai
 refine wpAny_done (by kernel_rfl) ?_ _
 refine th_n (W _ _ ?_)
 have ep30_6 : ap30.eval (.tmp 20) = .bool true := y.js 6 rfl
 refine wp_cond_true (ep30_6) ?_
 refine wp_seq_k (fun aE ak => (wp_region_lit (sw y.ok (o_as ev_const) (fun aF C => ?_))))
 refine wpList_nil (th_n (ak _ _ (wp_ret (th_r (ret1 C.ok rfl (C.at_) ⟨rfl, aj⟩)))))
theorem stake_old (b : Nat) (S : SiD) (m2 s2 : Nat) (Ka Kb : List VerI) (E : List PtX) (ra ga na : Option Addr) (rc gc nc : Nat) (hm2 : m2 < 5) (hEl : E.length ≤ 30) (hbat : BatOk Ka Kb) (hme : m2 = S.me) (hst : ¬ s2 = S.stamp) (w : World) (hS : SiteAt w b S) (hk1 : ResK 0 w (.slice ra (List.length Ka) rc) Ka) (hk2 : GL 0 w (.slice ga (List.length Kb) gc) Kb) (hE : PL 0 w (.slice na (List.length E) nc) E) :
  Calls Tryz.prog 39 #[.pointer (some ⟨b, 0, none⟩), .agg #[.int .i64 (m2 : Int), .int .i64 (s2 : Int), .slice ra (List.length Ka) rc, .slice ga (List.length Kb) gc, .slice na (List.length E) nc]] w fun e w' => e = .returned (.int .i64 6) ∧ Gr w w' := by
 refine enter (N := 65) Tryz.func39 rfl rfl rfl (fun D ok0 y => ?_)
 have K : D.eval (.tmp 0) = .pointer (some ⟨b, 0, none⟩) := y 0 _ rfl
 have M : D.eval (.tmp 1) = .agg #[.int .i64 (m2 : Int), .int .i64 (s2 : Int), .slice ra (List.length Ka) rc, .slice ga (List.length Kb) gc, .slice na (List.length E) nc] := y 1 _ rfl
 clear y
 have O := Gr.refl w
 obtain ⟨fa, fn, fc, sa, sn, sq, la, lc, hb, hF, hR, hP⟩ := hS
 refine wp_seq_k (fun K1 T => (wp_region_lit (sal (cs := #[.int .i64 (m2 : Int), .int .i64 (s2 : Int), .slice ra (List.length Ka) rc, .slice ga (List.length Kb) gc, .slice na (List.length E) nc]) ok0 rfl (wn _ rfl) rfl (o_box M) (fun aE U c g j => ?_))))
 have l := O.trans g.gr
 have V := hb.gr g.gr
 refine sw j.ok (o_as ev_const) (fun aF n => ?_)
 refine wpList_nil (th_n (T _ _ (wp_seq_k (fun aG W => (wp_seq_k (fun aH X => (wp_region_lit (sw n.ok (o_ldR (n.n j.at_) g.bk Tryz.underlying63 rfl (by kernel_rfl)) (fun aI o => ?_)))))))))
 refine sc o.ok rfl (wn _ rfl) rfl (o_f1 Tryz.func98 rfl rfl rfl o.at_) (checkBatch_ok m2 s2 Ka Kb E ra ga na rc gc nc hm2 hEl hbat U (hk1.gr l) (hk2.gr l) (hE.gr l)) ?_
 rintro _ aJ ⟨rfl, A⟩
 refine ⟨_, rfl, fun aK q => ?_⟩
 have Y := l.trans A
 have F := V.gr A
 have G := g.bk.gr A
 refine sw q.ok (o_as q.at_) (fun aL r => ?_)
 refine wpList_nil (th_n (X _ _ (wp_seq_k (fun aM Z => (wp_region_lit (sw r.ok (o_mv r.at_) (fun aO t => ?_)))))))
 refine sw t.ok (o_neq (b := false) t.at_ ev_const (by decide)) (fun aT u => ?_)
 refine wpList_nil (th_n (Z _ _ (wp_cond_false (u.at_) ?_)))
 refine wp_skip (th_n (W _ _ (wp_seq_k (fun aU aa => (wp_seq_k (fun aV ab => (reg_start (N := 65) (m := 7) (by kernel_rfl) (fun ac => ?_))))))))
 have H := u.n (t.n (r.n (q.n (o.n (n.n j.at_)))))
 have ad := ac.snoc (n' := 1) rfl (fun vJ _ => vJ = .pointer (some ⟨c, 0, none⟩)) rfl (fun _ _ _ _ h => h) (fun aS wS pS => by
   exact Does.val (wn _ rfl) (o_fa (z := 1) ((pS.old 3 rfl).trans H) Tryz.underlying63 rfl (by kernel_rfl) rfl rfl) (Gr.refl _) rfl rfl)
 have af := ad.snoc (n' := 2) rfl (fun vJ _ => vJ = .int .i64 (m2 : Int)) rfl (fun _ _ _ _ h => h) (fun aS wS pS => by
   have eR26_0 : aS.eval (.tmp 14) = .pointer (some ⟨c, 0, none⟩) := pS.pre 0 rfl
   exact Does.val (wn _ rfl) (o_ld (eR26_0) (Tryz.isAgg3 _) ((Bk.gr G (gr_drew pS.gr)).cell _ rfl)) (Gr.refl _) rfl rfl)
 have I := u.n (t.n (r.n (q.n (o.n (n.n (j.n K))))))
 have ag := af.snoc (n' := 3) rfl (fun vJ _ => vJ = .pointer (some ⟨b, 0, none⟩)) rfl (fun _ _ _ _ h => h) (fun aS wS pS => by
   exact Does.val (wn _ rfl) (o_mv ((pS.old 0 rfl).trans I)) (Gr.refl _) rfl rfl)
 have ah := ag.snoc (n' := 4) rfl (fun vJ _ => vJ = .pointer (some ⟨b, 0, none⟩)) rfl (fun _ _ _ _ h => h) (fun aS wS pS => by
   have eR26_2 : aS.eval (.tmp 16) = .pointer (some ⟨b, 0, none⟩) := pS.pre 2 rfl
   exact Does.val (wn _ rfl) (o_nc (eR26_2)) (Gr.refl _) rfl rfl)
 have ai := ah.snoc (n' := 5) rfl (fun vJ _ => vJ = .pointer (some ⟨b, 0, none⟩)) rfl (fun _ _ _ _ h => h) (fun aS wS pS => by
   have eR26_3 : aS.eval (.tmp 17) = .pointer (some ⟨b, 0, none⟩) := pS.pre 3 rfl
   exact Does.val (wn _ rfl) (o_fa (z := 1) (eR26_3) Tryz.underlying125 rfl (by kernel_rfl) rfl rfl) (Gr.refl _) rfl rfl)
 have aj := ai.snoc (n' := 6) rfl (fun vJ _ => vJ = .int .i64 ((S.me : Nat) : Int)) rfl (fun _ _ _ _ h => h) (fun aS wS pS => by
   have eR26_4 : aS.eval (.tmp 18) = .pointer (some ⟨b, 0, none⟩) := pS.pre 4 rfl
   exact Does.val (wn _ rfl) (o_ld (eR26_4) (Tryz.isAgg3 _) ((Bk.gr F (gr_drew pS.gr)).cell _ rfl)) (Gr.refl _) rfl rfl)
 have ak := aj.snoc (n' := 7) rfl (fun vJ _ => vJ = .bool false) rfl (fun _ _ _ _ h => h) (fun aS wS pS => by
   have eR26_1 : aS.eval (.tmp 15) = .int .i64 (m2 : Int) := pS.pre 1 rfl
   have eR26_5 : aS.eval (.tmp 19) = .int .i64 ((S.me : Nat) : Int) := pS.pre 5 rfl
   exact Does.val (wn _ rfl) (o_neq (b := false) (eR26_1) (eR26_5) (by simp [show (m2 : Int) = ((S.me : Nat) : Int) from (show  ((m2 : Nat) : Int) = ((S.me : Nat) : Int) by omega)])) (Gr.refl _) rfl rfl)
 refine ak.run (k := 0) (L := #[true, true, true, true, true, true, true]) (by kernel_rfl) (by kernel_rfl) (by kernel_rfl) u.ok (by kernel_rfl) (by kernel_rfl) (fun ap30 aW a => ?_)
 have B := gr_drew a.gr
 have al := Y.trans B
 have am := F.gr B
 have an := G.gr B
 refine wpAny_done (by kernel_rfl) ?_ _
 refine th_n (ab _ _ ?_)
 have ep30_6 : ap30.eval (.tmp 20) = .bool false := a.js 6 rfl
 refine wp_cond_false (ep30_6) ?_
 refine wp_skip (th_n (aa _ _ (wp_seq_k (fun aX aY => (wp_seq_k (fun aZ ao => (reg_start (N := 65) (m := 7) (by kernel_rfl) (fun ap => ?_))))))))
 have aq := ap.snoc (n' := 1) rfl (fun vJ _ => vJ = .pointer (some ⟨c, 1, none⟩)) rfl (fun _ _ _ _ h => h) (fun aS wS pS => by
   exact Does.val (wn _ rfl) (o_fa (z := 1) ((pS.old 3 rfl).trans ((a.old 3 rfl).trans H)) Tryz.underlying63 rfl (by kernel_rfl) rfl rfl) (Gr.refl _) rfl rfl)
 have ar := aq.snoc (n' := 2) rfl (fun vJ _ => vJ = .int .i64 (s2 : Int)) rfl (fun _ _ _ _ h => h) (fun aS wS pS => by
   have eR38_0 : aS.eval (.tmp 21) = .pointer (some ⟨c, 1, none⟩) := pS.pre 0 rfl
   exact Does.val (wn _ rfl) (o_ld (eR38_0) (Tryz.isAgg3 _) ((Bk.gr an (gr_drew pS.gr)).cell _ rfl)) (Gr.refl _) rfl rfl)
 have au := ar.snoc (n' := 3) rfl (fun vJ _ => vJ = .pointer (some ⟨b, 0, none⟩)) rfl (fun _ _ _ _ h => h) (fun aS wS pS => by
   exact Does.val (wn _ rfl) (o_mv ((pS.old 0 rfl).trans ((a.old 0 rfl).trans I))) (Gr.refl _) rfl rfl)
 have av := au.snoc (n' := 4) rfl (fun vJ _ => vJ = .pointer (some ⟨b, 0, none⟩)) rfl (fun _ _ _ _ h => h) (fun aS wS pS => by
   have eR38_2 : aS.eval (.tmp 23) = .pointer (some ⟨b, 0, none⟩) := pS.pre 2 rfl
   exact Does.val (wn _ rfl) (o_nc (eR38_2)) (Gr.refl _) rfl rfl)
 have ax := av.snoc (n' := 5) rfl (fun vJ _ => vJ = .pointer (some ⟨b, 2, none⟩)) rfl (fun _ _ _ _ h => h) (fun aS wS pS => by
   have eR38_3 : aS.eval (.tmp 24) = .pointer (some ⟨b, 0, none⟩) := pS.pre 3 rfl
   exact Does.val (wn _ rfl) (o_fa (z := 1) (eR38_3) Tryz.underlying125 rfl (by kernel_rfl) rfl rfl) (Gr.refl _) rfl rfl)
 have ay := ax.snoc (n' := 6) rfl (fun vJ _ => vJ = .int .i64 ((S.stamp : Nat) : Int)) rfl (fun _ _ _ _ h => h) (fun aS wS pS => by
   have eR38_4 : aS.eval (.tmp 25) = .pointer (some ⟨b, 2, none⟩) := pS.pre 4 rfl
   exact Does.val (wn _ rfl) (o_ld (eR38_4) (Tryz.isAgg3 _) ((Bk.gr am (gr_drew pS.gr)).cell _ rfl)) (Gr.refl _) rfl rfl)
 have az := ay.snoc (n' := 7) rfl (fun vJ _ => vJ = .bool true) rfl (fun _ _ _ _ h => h) (fun aS wS pS => by
   have eR38_1 : aS.eval (.tmp 22) = .int .i64 (s2 : Int) := pS.pre 1 rfl
   have eR38_5 : aS.eval (.tmp 26) = .int .i64 ((S.stamp : Nat) : Int) := pS.pre 5 rfl
   exact Does.val (wn _ rfl) (o_neq (b := true) (eR38_1) (eR38_5) (by simp [show ¬ (s2 : Int) = ((S.stamp : Nat) : Int) from (show ¬ ((s2 : Nat) : Int) = ((S.stamp : Nat) : Int) by omega)])) (Gr.refl _) rfl rfl)
 refine az.run (k := 0) (L := #[true, true, true, true, true, true, true]) (by kernel_rfl) (by kernel_rfl) (by kernel_rfl) a.ok (by kernel_rfl) (by kernel_rfl) (fun ap40 a1 C => ?_)
 have aA := gr_drew C.gr
 have aB := al.trans aA
 refine wpAny_done (by kernel_rfl) ?_ _
 refine th_n (ao _ _ ?_)
 have ep40_6 : ap40.eval (.tmp 27) = .bool true := C.js 6 rfl
 refine wp_cond_true (ep40_6) ?_
 refine wp_seq_k (fun a2 aC => (wp_region_lit (sw C.ok (o_as ev_const) (fun a3 J => ?_))))
 refine wpList_nil (th_n (aC _ _ (wp_ret (th_r (ret1 J.ok rfl (J.at_) ⟨rfl, aB⟩)))))
theorem siteBegun_any  (w : World) :
  Calls Tryz.prog 49 #[] w fun e w' => e = .returned (.bool true) ∧ Gr w w' := by
 refine enter (N := 34) Tryz.func49 rfl rfl rfl (fun a0 ok0 h0 => ?_)
 clear h0
 have G0 := Gr.refl w
 refine wp_seq_k (fun K1 ar => (wp_region_lit (sw ok0 (o_as ev_const) (fun aY n2 => ?_))))
 refine wpList_nil (th_n (ar _ _ (wp_seq_k (fun K3 av => (wp_region_lit (sc n2.ok rfl (wn _ rfl) rfl (o_f0 Tryz.func52 rfl rfl rfl ) (fevery_own w) ?_))))))
 rintro _ w5 ⟨v, rfl, hv, g6⟩
 refine ⟨_, rfl, fun a1 n4 => ?_⟩
 have G7 := G0.trans g6
 refine sc n4.ok rfl (wn _ rfl) rfl (o_f2 Tryz.func15 rfl rfl rfl ev_const n4.at_) (snew_ok 2 (by omega) v fullT w5 ((FO.fs hv).le (by decide))) ?_
 rintro _ w9 ⟨b, rfl, hge, hS, az⟩
 have hB : w.heap.size ≤ b := Nat.le_trans G7.size hge
 have hI0 : MkI ⟨2, 0, 0, fullT, [], []⟩ := MkI.new (by omega)
 refine ⟨_, rfl, fun a2 n8 => ?_⟩
 have af := G7.trans az
 refine sw n8.ok (o_mv n8.at_) (fun a3 G => ?_)
 refine sw G.ok (o_ex G.at_ rfl) (fun a4 H => ?_)
 refine sw H.ok (o_ex (H.n G.at_) rfl) (fun a6 I => ?_)
 refine sw I.ok (o_as (I.n H.at_)) (fun a7 J => ?_)
 refine sw J.ok (o_as (J.n I.at_)) (fun a8 K => ?_)
 refine wpList_nil (th_n (av _ _ (wp_seq_k (fun a9 aA => (wp_seq_k (fun ba aB => (wp_region_lit (sw K.ok (o_mv K.at_) (fun bb M => ?_)))))))))
 refine sw M.ok (o_neq (b := false) M.at_ ev_const (by decide)) (fun bc O => ?_)
 refine sw O.ok (o_mv O.at_) (fun bd n => ?_)
 have ag := n.n (O.n (M.n (K.n J.at_)))
 refine sv n.ok rfl (wgT rfl (yl 2 false rfl n.at_) rfl) rfl (o_mv ag) (fun bf o => ?_)
 refine sv o.ok rfl (wgT rfl (yl 2 false rfl (o.n n.at_)) rfl) rfl (o_eqNil o.at_ ev_const (by kernel_rfl)) (fun bg r => ?_)
 refine sw r.ok (o_pkF (r.n (o.n n.at_)) r.at_) (fun bh S => ?_)
 refine wpList_nil (th_n (aB _ _ (wp_cond_false (S.at_) ?_)))
 refine wp_skip (th_n (aA _ _ (wp_seq_k (fun bi aC => (wp_region_lit ?_)))))
 have ah := S.n (r.n (o.n ag))
 refine sw S.ok (o_mv ah) (fun bj T => ?_)
 refine sw T.ok (o_b0 (cs := #[.int .i64 0, .int .i64 0]) Tryz.underlying49 (by kernel_rfl) (by kernel_rfl)) (fun bl t => ?_)
 refine sc t.ok rfl (wn _ rfl) rfl (o_f4 Tryz.func22 rfl rfl rfl (t.n T.at_) ev_const t.at_ ev_const) (smake_i b ⟨2, 0, 0, fullT, [], []⟩ [97] 0 0 7 w w9 w9 af hB (Gr.refl _) hS hI0 (by decide) (by decide) (by omega) (by omega) (by omega)) ?_
 rintro _ U ⟨rfl, hS2, hI2, -, aD⟩
 have hl1 : (mkS ⟨2, 0, 0, fullT, [], []⟩ [97] ((0 : Nat) : Int) ((0 : Nat) : Int) ((7 : Nat) : Int)).L.length = 1 := mkS_one hI0 (hI0.one (by decide) (by omega) (by omega) (by omega)) rfl
 refine ⟨_, rfl, fun bm V => ?_⟩
 have ai := gr_site af aD hB
 refine sw V.ok (o_mv V.at_) (fun bn u => ?_)
 refine sw u.ok (o_ex u.at_ rfl) (fun bo y => ?_)
 refine sw y.ok (o_ex (y.n u.at_) rfl) (fun bp A => ?_)
 refine sal (cs := #[.int .i64 0, .int .i64 0]) A.ok rfl (wn _ rfl) rfl (o_al (z := .agg #[.int .i64 0, .int .i64 0]) (by kernel_rfl)) (fun bq br aj c g => ?_)
 have ak := Gr.refl U
 have aE : w.heap.size ≤ aj := by rw [c.eq]; exact ai.size
 have aF : U.heap.size ≤ aj := by rw [c.eq]; exact ak.size
 have aG := ai.trans c.gr
 have aH := ak.trans c.gr
 refine ssR rfl (wn _ rfl) (o_stR g.at_ (g.n (A.n y.at_)) c.bk (by kernel_rfl) rfl (by first | (simp [Value.oneCell']; done) | (rw [← Array.all_toList]; simp [Value.oneCell']))) c.bk (fun W al aI => ?_)
 have aJ : Gr w W := Below.upd aG aE al
 have aK : Gr U W := Below.upd aH aF al
 have aL := hS2.gr aK
 refine sw g.ok (o_as (g.n A.at_)) (fun bt B => ?_)
 refine wpList_nil (th_n (aC _ _ (wp_seq_k (fun bu aM => (wp_region_lit (sw B.ok (o_mv B.at_) (fun bv C => ?_)))))))
 refine sw C.ok (o_eq (b := true) C.at_ ev_const (by decide)) (fun bx D => ?_)
 refine sw D.ok (o_mv D.at_) (fun bz a => ?_)
 have aO := a.n (D.n (C.n (B.n g.at_)))
 refine sv a.ok rfl (wgT rfl (yl 2 true rfl a.at_) rfl) rfl (o_ldR aO aI Tryz.underlying51 rfl (by kernel_rfl)) (fun bA h => ?_)
 refine sv h.ok rfl (wgT rfl (yl 2 true rfl (h.n a.at_)) rfl) rfl (o_bd (cells := #[.int .i64 2, .int .i64 1]) (vs := [(0, .int .i64 2), (1, .int .i64 1)]) (by simp [ev_const]) (by kernel_rfl)) (fun bB j => ?_)
 refine sv j.ok rfl (wgT rfl (yl 2 true rfl (j.n (h.n a.at_))) rfl) rfl (o_eqA (b := true) (j.n h.at_) j.at_ (by kernel_rfl) (eq_dot 2 1 2 1 _)) (fun bC E => ?_)
 have aS := E.n (j.n (h.n a.at_))
 refine sw E.ok (o_pkT aS E.at_) (fun bD X => ?_)
 refine sw X.ok (o_mv X.at_) (fun bE l => ?_)
 have aT := l.n (X.n (E.n (j.n (h.n (a.n (D.n (C.n (B.n (g.n (A.n (y.n (u.n (V.n (t.n (T.n ah)))))))))))))))
 refine sv l.ok rfl (wgT rfl (yl 7 true rfl l.at_) rfl) rfl (o_mv aT) (fun bF q => ?_)
 refine sc q.ok rfl (wgT rfl (yl 7 true rfl (q.n l.at_)) rfl) rfl (o_f1 Tryz.func45 rfl rfl rfl q.at_) (sshelf_any b (mkS ⟨2, 0, 0, fullT, [], []⟩ [97] ((0 : Nat) : Int) ((0 : Nat) : Int) ((7 : Nat) : Int)) hI2.ok.ok W aL) ?_
 rintro _ bG ⟨ua, un, uc, rfl, hu, hul, aU⟩
 refine ⟨_, rfl, fun bH F => ?_⟩
 have aV := aJ.trans aU
 refine sv F.ok rfl (wgT rfl (yl 7 true rfl (F.n (q.n l.at_))) rfl) rfl (o_len F.at_ Tryz.underlying41) (fun bI Y => ?_)
 have am := Y.n (F.n (q.n l.at_))
 refine sv Y.ok rfl (wgT rfl (yl 7 true rfl am) rfl) rfl (o_eq (b := true) Y.at_ ev_const (by rw [hul, hl1]; rfl)) (fun bJ Z => ?_)
 refine sw Z.ok (o_pkT (Z.n am) Z.at_) (fun bK an => ?_)
 refine sw an.ok (o_as an.at_) (fun bL ao => ?_)
 refine wpList_nil (th_n (aM _ _ (wp_ret (ret1 ao.ok rfl (ao.at_) ⟨rfl, aV⟩))))
end Go.Proofs.YtglbnggkkjhokaaGreat
/- An argument that is a slice of boxes reads as a list. -/
namespace Go.Proofs.YtglbnggkkjhokaaGreat
open Go.ChangeShapes Go.WideShapes Go.ChangeAt Go.RowKit Go.Deep Rm
section
variable {H : Type} {enc : TypeId × Value → H} {W : World} {base : Nat} {spare : Nat → Bool} {held : Bool}
theorem spans_trod {fuel : Nat} {cs : List Value} {x : DataW H × List MemPlace} (h : DataW.trod enc Tryz.prog W base spare held fuel 132 cs = some x) : ∃ v l, cs = [v] ∧ Rd2 W v l := by
 rcases open_slice_pairs Tryz.underlying132 Tryz.underlying177 (by kernel_rfl) rfl rfl (by kernel_rfl) (by kernel_rfl) h with ⟨rfl, _⟩ | ⟨a, len, cap, m, n, V0, V1, D0, D1, P0, P1, rfl, hb, hl, hm, hmm, hx, hcell⟩
 ·exact ⟨_, [], rfl, Rd2.nil W⟩
 ·have hlm : len ≤ m := by rw [hmm]; split <;> omega
  obtain ⟨l, hl', _⟩ := rd2_of (W := W) (a := a) (V0 := V0) (V1 := V1) hl (fun i hi => ⟨(hcell i (by omega)).1, (hcell i (by omega)).2.1⟩) (fun i hi => by
   obtain ⟨_, _, t0, t1⟩ := hcell i (by omega)
   obtain ⟨x, ex, _, _⟩ := DataW.trod_int Tryz.underlying3 t0
   obtain ⟨y, ey, _, _⟩ := DataW.trod_int Tryz.underlying3 t1
   simp at ex ey
   exact ⟨x, y, ex, ey⟩)
  exact ⟨_, l, rfl, hl'⟩
theorem box_cells : Tryz.prog.cellsOf 134 = 3 := by kernel_rfl
theorem cube_cells : Tryz.prog.cellsOf 131 = 2 := by kernel_rfl
theorem int_cells : Tryz.prog.cellsOf 3 = 1 := by kernel_rfl
theorem spans_cells : Tryz.prog.cellsOf 132 = 1 := by kernel_rfl
theorem box_trod {fuel : Nat} {cs : List Value} {x : DataW H × List MemPlace} (h : DataW.trod enc Tryz.prog W base spare held fuel 134 cs = some x) : ∃ (p : BoxI) (sv : Value), cs = [.int .i64 p.1.1, .int .i64 p.1.2, sv] ∧ Rd2 W sv p.2 := by
 obtain ⟨xs, k, _, _, hlen, hxl, hf⟩ := DataW.trod_struct Tryz.underlying134 h
 rw [box_cells] at hlen
 have g0 : DataW.trod enc Tryz.prog W base spare held k 131 ((cs.drop 0).take (Tryz.prog.cellsOf 131)) = xs[0]? := hf 0 _ rfl
 have g1 : DataW.trod enc Tryz.prog W base spare held k 132 ((cs.drop 2).take (Tryz.prog.cellsOf 132)) = xs[1]? := hf 1 _ rfl
 rw [cube_cells] at g0
 rw [spans_cells] at g1
 match xs, hxl, cs, hlen with
 | [y0, y1], _, [v0, v1, v2], _ =>
  simp at g0 g1
  obtain ⟨ys, k', _, _, hlen', hyl, hf'⟩ := DataW.trod_struct Tryz.underlying131 g0
  have q0 : DataW.trod enc Tryz.prog W base spare held k' 3 (([v0, v1].drop 0).take (Tryz.prog.cellsOf 3)) = ys[0]? := hf' 0 _ rfl
  have q1 : DataW.trod enc Tryz.prog W base spare held k' 3 (([v0, v1].drop 1).take (Tryz.prog.cellsOf 3)) = ys[1]? := hf' 1 _ rfl
  rw [int_cells] at q0 q1
  match ys, hyl with
  | [z0, z1], _ =>
   simp at q0 q1
   obtain ⟨a, ea, _, _⟩ := DataW.trod_int Tryz.underlying3 q0
   obtain ⟨b, eb, _, _⟩ := DataW.trod_int Tryz.underlying3 q1
   simp at ea eb
   obtain ⟨sv, s, es, hs⟩ := spans_trod g1
   simp at es
   subst ea eb es
   exact ⟨((a, b), s), v2, rfl, hs⟩
theorem boxes_trod {fuel : Nat} {cs : List Value} {x : DataW H × List MemPlace} (h : DataW.trod enc Tryz.prog W base spare held fuel 22 cs = some x) : ∃ v l, cs = [v] ∧ RdF W v l := by
 rcases open_slice Tryz.underlying22 h with ⟨rfl, _⟩ | ⟨a, len, cap, m, n, D, Pl, rfl, hb, hl, hm, hmm, hx, hcell⟩
 ·exact ⟨_, [], rfl, RdF.nil W⟩
 ·have hlm : len ≤ m := by rw [hmm]; split <;> omega
  obtain ⟨q, hq⟩ := choose_lt (α := BoxI) (n := len) (p := fun i p => ∃ sv, W.cell? (a.add (i * 3)) = some (.int .i64 p.1.1) ∧ W.cell? (a.add (i * 3 + 1)) = some (.int .i64 p.1.2) ∧ W.cell? (a.add (i * 3 + 2)) = some sv ∧ Rd2 W sv p.2) (fun i hi => by
    obtain ⟨cs', h1, h2⟩ := hcell i (by omega)
    rw [box_cells] at h1
    obtain ⟨p, sv, rfl, hs⟩ := box_trod h2
    obtain ⟨_, _, hc⟩ := World.cells?_some h1
    have e0 := hc 0 (by omega)
    have e1 := hc 1 (by omega)
    have e2 := hc 2 (by omega)
    rw [add_add] at e0 e1 e2
    exact ⟨p, sv, by simpa using e0, by simpa using e1, by simpa using e2, hs⟩)
  refine ⟨_, (List.range len).map q, rfl, ⟨some a, cap, by simp, by simpa using hl, fun hne => ?_⟩⟩
  have h0 : 0 < len := by
   rcases Nat.eq_zero_or_pos len with h | h
   ·subst h; simp at hne
   ·exact h
  obtain ⟨b, off, spot⟩ := a
  obtain ⟨_, hc0, _⟩ := hq 0 h0
  have hspot : spot = none := by simpa [Addr.add] using World.cell?_spot hc0
  subst hspot
  have hlt : b < W.heap.size := by
   have := block_lt_of_cell hc0
   simpa [Addr.add] using this
  refine ⟨b, off, rfl, hlt, fun i p hp => ?_⟩
  have hil : i < len := by
   have := (List.getElem?_eq_some_iff.1 hp).1
   simpa using this
  have hp' : p = q i := by
   simp [List.getElem?_map, List.getElem?_range hil] at hp
   exact hp.symm
  subst hp'
  obtain ⟨sv, q1, q2, q3, q4⟩ := hq i hil
  rw [add_none] at q1 q2 q3
  exact ⟨sv, q1, by rw [Nat.add_assoc]; exact q2, by rw [Nat.add_assoc]; exact q3, q4⟩
theorem open_boxes {r : Reach} {b0 : Nat} {v : Value} {d : DataW H} {p : List MemPlace}
  (hv : Value.okWide Tryz.prog W r b0 22 v) (h : DataW.Trod enc Tryz.prog W base spare held 22 v d p) : ∃ l, RdF W v l := by
 obtain ⟨a0, len0, cap0, rfl⟩ := okWide_slice Tryz.underlying22 hv
 obtain ⟨fuel, hf⟩ := h
 obtain ⟨v, l, e, hl⟩ := boxes_trod hf
 simp [Value.cells] at e
 subst e
 exact ⟨l, hl⟩
end
end Go.Proofs.YtglbnggkkjhokaaGreat
