/- A region that draws its order: the operations that come ahead of the others may lie anywhere in the list. -/
import Derived.Test.YtghjfakellaecaaGxT
set_option linter.unusedVariables false
set_option linter.unusedSimpArgs false
namespace Gx
open Go Go.RowKit Rm
/-- is an operation one of those that come first? -/
def hd (hs : List Nat) (i : Nat) : Bool := hs.any fun j => Nat.beq j i
def fdH (ops : Array Oper) (hs : List Nat) : List Nat := hs.filterMap fun i => (ops[i]?).bind (·.dst)
theorem hd_mem {hs : List Nat} {i : Nat} : hd hs i = true ↔ i ∈ hs := by
  unfold hd
  rw [List.any_eq_true]
  constructor
  · rintro ⟨j, hj, e⟩; rw [← Nat.eq_of_beq_eq_true e]; exact hj
  · intro h; exact ⟨i, h, by simp⟩
theorem fdH_mem {ops : Array Oper} {hs : List Nat} {i d : Nat} {o : Oper} (ho : ops[i]? = some o) (hi : hd hs i = true) (hdst : o.dst = some d) : d ∈ fdH ops hs := by
  unfold fdH
  rw [List.mem_filterMap]
  exact ⟨i, hd_mem.1 hi, by rw [ho]; exact hdst⟩
structure PreH (ops : Array Oper) (hs : List Nat) (js : Js) (N : Nat) (a₀ : Act) (w₀ : World) (o : Oper) (a : Act) (w : World) : Prop where
  ok : Ok N a
  gr : Gr w₀ w
  old : ∀ t, (fdH ops hs).all (fun d => !Nat.beq t d) = true → a.eval (.tmp t) = a₀.eval (.tmp t)
  pre : ∀ j, waits o j = true → jAt js j (a.eval (.tmp (dstAt ops j))) w
structure RegH (P : Program) (ops : Array Oper) (Q : Exit → Act → World → Prop) (N : Nat) (a₀ : Act) (w₀ : World) (hs : List Nat) (n : Nat) (js : Js) : Prop where
  back : backs ops = true
  top : ∀ i, n ≤ i → jAt js i = fun _ _ => True
  mono : ∀ i v w w', Gr w w' → jAt js i v w → jAt js i v w'
  does : ∀ i o, i < n → hd hs i = true → ops[i]? = some o → ∀ a w, PreH ops hs js N a₀ w₀ o a w → Does P ops Q (jAt js i) o a w
section
variable {P : Program} {ops : Array Oper} {Q : Exit → Act → World → Prop} {N : Nat} {a₀ : Act} {w₀ : World} {hs : List Nat}
theorem RegH.nil (hb : backs ops = true) : RegH P ops Q N a₀ w₀ hs 0 [] := ⟨hb, fun _ _ => rfl, fun i v w w' _ _ => trivial, fun i o h => absurd h (Nat.not_lt_zero _)⟩
theorem RegH.snoc {n n' : Nat} {js : Js} (R : RegH P ops Q N a₀ w₀ hs n js) (hn : n + 1 = n') (J : Value → World → Prop) {o : Oper} (ho : ops[n]? = some o) (hm : ∀ v w w', Gr w w' → J v w → J v w')
    (h : ∀ a w, PreH ops hs js N a₀ w₀ o a w → Does P ops Q J o a w) : RegH P ops Q N a₀ w₀ hs n' ((n, J) :: js) where
  back := R.back
  top i hi := by rw [jAt_ne (by omega)]; exact R.top i (by omega)
  mono i v w w' g hj := by
    by_cases q : n = i
    · subst q; rw [jAt_eq] at *; exact hm v w w' g hj
    · rw [jAt_ne q] at *; exact R.mono i v w w' g hj
  does i o' hi hh ho' a w p := by
    have p' : PreH ops hs js N a₀ w₀ o' a w := by
      refine ⟨p.ok, p.gr, p.old, fun j hj => ?_⟩
      have h1 := p.pre j hj
      have hlt : j < n := by
        unfold waits at hj
        obtain ⟨e, he, hh⟩ := List.any_eq_true.1 hj
        have h2 := backs_spec R.back i o' ho' e (by simpa using he) (Bool.and_eq_true_iff.1 hh).1
        simp only [Bool.and_eq_true] at hh
        have h3 := Nat.eq_of_beq_eq_true hh.2
        omega
      rwa [jAt_ne (by omega)] at h1
    by_cases q : n = i
    · subst q
      rw [jAt_eq]
      obtain rfl : o = o' := Option.some.inj (ho.symm.trans ho')
      exact h a w p'
    · rw [jAt_ne q]
      exact R.does i o' (by omega) hh ho' a w p'
/-- an operation that does not come first -/
theorem RegH.skip {n n' : Nat} {js : Js} (R : RegH P ops Q N a₀ w₀ hs n js) (hn : n + 1 = n') (hh : hd hs n = false) : RegH P ops Q N a₀ w₀ hs n' js where
  back := R.back
  top i hi := R.top i (by omega)
  mono := R.mono
  does i o' hi hh' ho' a w p := by
    by_cases q : n = i
    · subst q; rw [hh] at hh'; cases hh'
    · exact R.does i o' (by omega) hh' ho' a w p
def shapeH (ops : Array Oper) (hs : List Nat) : Bool :=
  (hs.all fun i => ((ops[i]?).bind (·.dst)).isSome && ((hs.all fun j => Nat.beq j i || !Nat.beq (dstAt ops j) (dstAt ops i))) && (match ops[i]? with | some o => o.after.toList.all fun e => !(Region.binds .any e) || hd hs e.on | none => false)) &&
  ((List.range ops.size).all fun i => hd hs i || (hs.all fun j => reach ops ops.size i j))
def firstsH (n : Nat) (hs : List Nat) : Array Bool := ((List.range n).map fun i => hd hs i).toArray
theorem shapeH_spec (h : shapeH ops hs = true) : (∀ i, hd hs i = true → ∃ o, ops[i]? = some o ∧ o.dst = some (dstAt ops i) ∧ ∀ e ∈ o.after, Region.binds .any e = true → hd hs e.on = true) ∧
    (∀ i j, hd hs i = true → hd hs j = true → i ≠ j → dstAt ops j ≠ dstAt ops i) ∧ (∀ i, i < ops.size → hd hs i = false → ∀ j, hd hs j = true → reach ops ops.size i j = true) := by
  unfold shapeH at h
  rw [Bool.and_eq_true] at h
  obtain ⟨h1, h2⟩ := h
  have key : ∀ i, hd hs i = true → (((ops[i]?).bind (·.dst)).isSome = true ∧ (∀ j, hd hs j = true → i ≠ j → dstAt ops j ≠ dstAt ops i)) ∧ (match ops[i]? with | some o => o.after.toList.all fun e => !(Region.binds .any e) || hd hs e.on | none => false) = true := by
    intro i hi
    have := List.all_eq_true.1 h1 i (hd_mem.1 hi)
    simp only [Bool.and_eq_true] at this
    refine ⟨⟨this.1.1, fun j hj hne => ?_⟩, this.2⟩
    have h3 := List.all_eq_true.1 this.1.2 j (hd_mem.1 hj)
    rw [Bool.or_eq_true] at h3
    rcases h3 with h3 | h3
    · exact absurd (Nat.eq_of_beq_eq_true h3).symm hne
    · rw [Bool.not_eq_true'] at h3
      exact Nat.ne_of_beq_eq_false h3
  refine ⟨fun i hi => ?_, fun i j hi hj hne => (key i hi).1.2 j hj hne, fun i hi hn j hj => ?_⟩
  · obtain ⟨⟨k1, -⟩, k2⟩ := key i hi
    cases ho : ops[i]? with
    | none => rw [ho] at k1; cases k1
    | some o =>
      refine ⟨o, rfl, ?_, fun e he hb => ?_⟩
      · rw [ho] at k1
        simp only [Option.bind_some] at k1
        obtain ⟨d, hd'⟩ := Option.isSome_iff_exists.1 k1
        unfold dstAt
        rw [ho]
        simp [hd']
      · rw [ho] at k2
        have := List.all_eq_true.1 k2 e (by simpa using he)
        rw [hb] at this
        simpa using this
  · have := List.all_eq_true.1 h2 i (List.mem_range.2 hi)
    rw [hn, Bool.false_or] at this
    exact List.all_eq_true.1 this j (hd_mem.1 hj)
structure PostH (ops : Array Oper) (hs : List Nat) (js : Js) (N : Nat) (a₀ : Act) (w₀ : World) (a : Act) (w : World) : Prop where
  ok : Ok N a
  gr : Gr w₀ w
  old : ∀ t, (fdH ops hs).all (fun d => !Nat.beq t d) = true → a.eval (.tmp t) = a₀.eval (.tmp t)
  js : ∀ j, hd hs j = true → jAt js j (a.eval (.tmp (dstAt ops j))) w
  dis : ∀ i j b b', hd hs i = true → hd hs j = true → Nat.beq i j = false → alAt ops i = true → alAt ops j = true → a.eval (.tmp (dstAt ops i)) = .pointer (some ⟨b, 0, none⟩) → a.eval (.tmp (dstAt ops j)) = .pointer (some ⟨b', 0, none⟩) → b ≠ b'
structure WayH (ops : Array Oper) (hs : List Nat) (js : Js) (N : Nat) (a₀ : Act) (w₀ : World) (U : List Nat) (L : Array Bool) (a : Act) (w : World) : Prop where
  ok : Ok N a
  gr : Gr w₀ w
  old : ∀ t, (fdH ops hs).all (fun d => !Nat.beq t d) = true → a.eval (.tmp t) = a₀.eval (.tmp t)
  size : L.size = ops.size
  closed : Closed ops L
  nodup : U.Nodup
  un : ∀ j, hd hs j = true → (L.getD j false = false ↔ j ∈ U)
  lt : ∀ j ∈ U, hd hs j = true
  tail : ∀ j, hd hs j = false → L.getD j false = false
  js : ∀ j, hd hs j = true → L.getD j false = true → jAt js j (a.eval (.tmp (dstAt ops j))) w
  dis : ∀ i j, hd hs i = true → hd hs j = true → i ≠ j → L.getD i false = true → L.getD j false = true → alAt ops i = true → alAt ops j = true → ∃ b b', a.eval (.tmp (dstAt ops i)) = .pointer (some ⟨b, 0, none⟩) ∧ a.eval (.tmp (dstAt ops j)) = .pointer (some ⟨b', 0, none⟩) ∧ b ≠ b'
  low : ∀ i, hd hs i = true → L.getD i false = true → alAt ops i = true → ∃ b, a.eval (.tmp (dstAt ops i)) = .pointer (some ⟨b, 0, none⟩) ∧ b < w.heap.size
theorem RegH.way {n : Nat} {js : Js} (R : RegH P ops Q N a₀ w₀ hs n js) (hn0 : n = ops.size) (hsh : shapeH ops hs = true) (hN : (hs.all fun i => Nat.blt (dstAt ops i) N) = true) (k : Nat)
    (hend : ∀ a w, PostH ops hs js N a₀ w₀ a w → wpAny P .any ops Q k (firstsH ops.size hs) a w) :
    ∀ (U : List Nat) (L : Array Bool) (a : Act) (w : World), WayH ops hs js N a₀ w₀ U L a w → wpAny P .any ops Q (U.length + k) L a w := by
  obtain ⟨hdd0, hdd, ht⟩ := shapeH_spec hsh
  subst hn0
  have hb := backs_spec R.back
  intro U
  generalize hn : U.length = u0
  induction u0 generalizing U with
  | zero =>
    intro L a w W
    have hU : U = [] := List.eq_nil_of_length_eq_zero hn
    subst hU
    have hall : ∀ j, hd hs j = true → L.getD j false = true := fun j hj => by
      have := (W.un j hj)
      cases e : L.getD j false
      · rw [e] at this; exact absurd (this.1 rfl) (by simp)
      · rfl
    have hL : L = firstsH ops.size hs := by
      apply Array.ext
      · simp [firstsH, W.size]
      · intro i h1 h2
        have e1 : L[i] = L.getD i false := by simp [Array.getD, h1]
        rw [e1]
        simp only [firstsH, List.getElem_toArray, List.getElem_map, List.getElem_range]
        cases q : hd hs i
        · exact W.tail i q
        · exact hall i q
    subst hL
    rw [Nat.zero_add]
    exact hend a w ⟨W.ok, W.gr, W.old, fun j hj => W.js j hj (hall j hj), fun i j b b' hi hj hij h1 h2 e1 e2 => by
      obtain ⟨c, c', q1, q2, q3⟩ := W.dis i j hi hj (Nat.ne_of_beq_eq_false hij) (hall i hi) (hall j hj) h1 h2
      rw [e1] at q1
      rw [e2] at q2
      cases q1
      cases q2
      exact q3⟩
  | succ u0 ih =>
    intro L a w W
    rw [Nat.succ_add]
    -- the least one that is not listed may come up
    have hne : Region.ready .any ops L ≠ [] := by
      obtain ⟨u, hu⟩ : ∃ u, u ∈ U := List.exists_mem_of_length_pos (by omega)
      have hlu := W.lt u hu
      have hex : ∃ k, hd hs k = true ∧ L.getD k false = false := ⟨u, hlu, (W.un u hlu).2 hu⟩
      obtain ⟨k, ⟨hk1, hk2⟩, hk3⟩ := exists_least hex
      obtain ⟨o, ho, -, hcl⟩ := hdd0 k hk1
      have hki : k < L.size := by rw [W.size]; exact (Array.getElem?_eq_some_iff.1 ho).1
      have : k ∈ Region.ready .any ops L := by
        rw [mem_ready]
        refine ⟨by rw [getD_lt hki true false]; exact hk2, o, ho, fun e he hbd => ?_⟩
        have hlt := hb k o ho e he hbd
        cases q : L.getD e.on false
        · have := hk3 e.on ⟨hcl e he hbd, q⟩; omega
        · rfl
      intro e
      rw [e] at this
      cases this
    refine ⟨fun h => absurd h hne, fun i hi => ?_⟩
    obtain ⟨hil, o, ho, hall⟩ := mem_ready.1 hi
    have his : i < ops.size := (Array.getElem?_eq_some_iff.1 ho).1
    have hiL : i < L.size := by rw [W.size]; exact his
    have hil' : L.getD i false = false := by rw [getD_lt hiL false true]; exact hil
    have him : hd hs i = true := by
      cases q : hd hs i
      · exfalso
        obtain ⟨u, hu⟩ : ∃ u, u ∈ U := List.exists_mem_of_length_pos (by omega)
        have hlu := W.lt u hu
        have h1 := reach_listed W.closed ops.size i u (fun o' ho' e he hbd => by
          obtain rfl : o = o' := Option.some.inj (ho.symm.trans ho')
          exact hall e he hbd) (ht i his q u hlu)
        rw [(W.un u hlu).2 hu] at h1
        cases h1
      · rfl
    have hiU : i ∈ U := (W.un i him).1 hil'
    obtain ⟨o', ho', hdst, hcl⟩ := hdd0 i him
    obtain rfl : o = o' := Option.some.inj (ho.symm.trans ho')
    have hdoes := R.does i o his him ho a w ⟨W.ok, W.gr, W.old, fun j hj => by
        unfold waits at hj
        obtain ⟨e, he, hh⟩ := List.any_eq_true.1 hj
        have he : e ∈ o.after := by simpa using he
        simp only [Bool.and_eq_true] at hh
        have h2 := Nat.eq_of_beq_eq_true hh.2
        have h3 := hall e he hh.1
        rw [h2] at h3
        have hjh := hcl e he hh.1
        rw [h2] at hjh
        exact W.js j hjh h3⟩
    have hdN : Nat.blt (dstAt ops i) N = true := List.all_eq_true.1 hN i (hd_mem.1 him)
    have next : ∀ v w', Gr w w' → jAt js i v w' → (isAl o = true → v = .pointer (some ⟨w.heap.size, 0, none⟩) ∧ w.heap.size < w'.heap.size) → wpAny P .any ops Q (u0 + k) (L.setIfInBounds i true) (a.put o.dst v) w' := by
      intro v w' g hJ hA
      rw [hdst]
      have nx := Nx.put W.ok hdN v
      refine ih (U.erase i) (by rw [List.length_erase_of_mem hiU, hn]; rfl) (L.setIfInBounds i true) _ w' ?_
      refine ⟨nx.ok, W.gr.trans g, fun t ht => ?_, by simp [W.size], ?_, W.nodup.erase _, ?_, fun j hj => W.lt j (List.mem_of_mem_erase hj), ?_, ?_, ?_, ?_⟩
      · have := List.all_eq_true.1 ht _ (fdH_mem ho him hdst)
        rw [Bool.not_eq_true'] at this
        exact (nx.oth t this).trans (W.old t ht)
      · intro k ok hk hok e he hbd
        rw [getD_set hiL] at hk ⊢
        split
        · rfl
        · by_cases q : i = k
          · subst q
            obtain rfl : o = ok := Option.some.inj (ho.symm.trans hok)
            exact hall e he hbd
          · rw [if_neg q] at hk
            exact W.closed k ok hk hok e he hbd
      · intro j hj
        rw [getD_set hiL, W.nodup.mem_erase_iff]
        by_cases q : i = j
        · subst q; simp
        · rw [if_neg q, W.un j hj]
          exact ⟨fun h => ⟨fun e => q e.symm, h⟩, fun h => h.2⟩
      · intro j hj
        rw [getD_set hiL, if_neg (fun e => by subst e; rw [him] at hj; cases hj)]
        exact W.tail j hj
      · intro j hj hl
        by_cases q : i = j
        · subst q
          rw [nx.at_]
          exact hJ
        · rw [getD_set hiL, if_neg q] at hl
          have h1 := W.js j hj hl
          rw [nx.oth _ (by
            have := hdd i j him hj q
            cases e : Nat.beq (dstAt ops j) (dstAt ops i)
            · rfl
            · exact absurd (Nat.eq_of_beq_eq_true e) this)]
          exact R.mono j _ _ _ g h1
      · intro j k hj hk hjk hlj hlk haj hak
        have other : ∀ j, hd hs j = true → i ≠ j → (L.setIfInBounds i true).getD j false = true → L.getD j false = true ∧ (a.put (some (dstAt ops i)) v).eval (.tmp (dstAt ops j)) = a.eval (.tmp (dstAt ops j)) := by
          intro j hj q hl
          rw [getD_set hiL, if_neg q] at hl
          refine ⟨hl, nx.oth _ ?_⟩
          have := hdd i j him hj q
          cases e : Nat.beq (dstAt ops j) (dstAt ops i)
          · rfl
          · exact absurd (Nat.eq_of_beq_eq_true e) this
        have hio : ∀ q : alAt ops i = true, isAl o = true := fun q => by unfold alAt at q; rw [ho] at q; exact q
        by_cases q1 : i = j
        · subst q1
          obtain ⟨hl, he⟩ := other k hk hjk hlk
          obtain ⟨b, h1, h2⟩ := W.low k hk hl hak
          obtain ⟨h3, h4⟩ := hA (hio haj)
          exact ⟨_, b, by rw [nx.at_, h3], by rw [he]; exact h1, by omega⟩
        · by_cases q2 : i = k
          · subst q2
            obtain ⟨hl, he⟩ := other j hj q1 hlj
            obtain ⟨b, h1, h2⟩ := W.low j hj hl haj
            obtain ⟨h3, h4⟩ := hA (hio hak)
            exact ⟨b, _, by rw [he]; exact h1, by rw [nx.at_, h3], by omega⟩
          · obtain ⟨hl, he⟩ := other j hj q1 hlj
            obtain ⟨hl', he'⟩ := other k hk q2 hlk
            obtain ⟨b, b', h1, h2, h3⟩ := W.dis j k hj hk hjk hl hl' haj hak
            exact ⟨b, b', by rw [he]; exact h1, by rw [he']; exact h2, h3⟩
      · intro j hj hl haj
        by_cases q : i = j
        · subst q
          have hio : isAl o = true := by unfold alAt at haj; rw [ho] at haj; exact haj
          obtain ⟨h3, h4⟩ := hA hio
          exact ⟨_, by rw [nx.at_, h3], h4⟩
        · rw [getD_set hiL, if_neg q] at hl
          obtain ⟨b, h1, h2⟩ := W.low j hj hl haj
          refine ⟨b, ?_, Nat.lt_of_lt_of_le h2 g.le⟩
          rw [nx.oth _ (by
            have := hdd i j him hj q
            cases e : Nat.beq (dstAt ops j) (dstAt ops i)
            · rfl
            · exact absurd (Nat.eq_of_beq_eq_true e) this)]
          exact h1
    unfold wpOp
    rw [ho]
    unfold Does at hdoes
    by_cases hw : Region.wanted o (yielded ops a.tmps) = true
    · rw [if_pos hw] at hdoes
      simp only [hw, if_true]
      left
      refine Oper.wp_mono ?_ hdoes
      rintro a' w' ⟨v, rfl, g, hj, hA⟩
      exact next v w' g hj hA
    · rw [if_neg hw] at hdoes
      simp only [hw, if_false, Bool.false_eq_true]
      exact next undef w (Gr.refl w) hdoes.1 (fun e => by rw [hdoes.2] at e; cases e)
/-- a region that draws its order -/
theorem RegH.run {id n : Nat} {js : Js} {a : Act} {w : World} (R : RegH P ops Q N a w.drew hs n js) (hn : ops.size = n) {k : Nat} {L : Array Bool} (hk : ((List.range n).filter fun i => hd hs i).length + k = n) (hL : firstsH n hs = L) (hf : P.follows .mixedOrders = true) (ok : Ok N a) (hsh : shapeH ops hs = true) (hN : (hs.all fun i => Nat.blt (dstAt ops i) N) = true)
    (hend : ∀ a' w', PostH ops hs js N a w.drew a' w' → wpAny P .any ops Q k L a' w') : (Code.region id ops true).wp P Q a w := by
  subst hn hL
  refine wp_region_any hf ?_
  obtain ⟨hdd0, -, -⟩ := shapeH_spec hsh
  have hmem : ∀ j, hd hs j = true → j ∈ (List.range ops.size).filter fun i => hd hs i := fun j hj => by
    obtain ⟨o, ho, -⟩ := hdd0 j hj
    exact List.mem_filter.2 ⟨List.mem_range.2 (Array.getElem?_eq_some_iff.1 ho).1, hj⟩
  have h := R.way rfl hsh hN k hend ((List.range ops.size).filter fun i => hd hs i) (Array.replicate ops.size false) a w.drew
    { ok := ok, gr := Gr.refl _, old := fun _ _ => rfl, size := by simp
      closed := fun i o h => by rw [replicate_getD] at h; cases h
      nodup := List.nodup_range.filter _
      un := fun j hj => by rw [replicate_getD]; simp only [true_iff]; exact hmem j hj
      lt := fun j hj => (List.mem_filter.1 hj).2
      tail := fun j _ => replicate_getD _ _
      js := fun j _ h => by rw [replicate_getD] at h; cases h
      dis := fun i j _ _ _ h => by rw [replicate_getD] at h; cases h
      low := fun i _ h => by rw [replicate_getD] at h; cases h }
  rw [hk] at h
  exact h
theorem regh_start {id : Nat} {a : Act} {w : World} (hs : List Nat) (hb : backs ops = true) (h : RegH P ops Q N a w.drew hs 0 [] → (Code.region id ops true).wp P Q a w) : (Code.region id ops true).wp P Q a w := h (RegH.nil hb)
end
end Gx
