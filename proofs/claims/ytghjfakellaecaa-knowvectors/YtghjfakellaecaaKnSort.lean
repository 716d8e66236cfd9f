/- slices.SortFunc at dots by know.compare: the same dots, in order. -/
import Derived.Test.YtghjfakellaecaaSpanA
import Derived.Test.YtghjfakellaecaaKnP
import Derived.Shelf.SlSortCmp.WholeK
import Derived.Shelf.SlSortCmp.NoneTotal
import Derived.StillTailTactics
namespace Go.Proofs
open Go.Shelf
def Try.sortDots_ren : Go.Shelf.Ren := ⟨fun | 6 => 93 | 15 => 111 | 14 => 110 | 28 => 127 | 29 => 128 | 20 => 119 | 21 => 120 | 22 => 121 | 23 => 122 | 24 => 123 | 25 => 124 | 26 => 125 | 27 => 126 | 46 => 140 | 47 => 141 | 48 => 142 | 49 => 143 | 50 => 144 | 57 => 150 | n => n, fun | 22 => 33 | 24 => 26 | 25 => 149 | 3 => 3 | 39 => 146 | 0 => 0 | 53 => 73 | 55 => 83 | 4 => 4 | 46 => 176 | 45 => 175 | 50 => 180 | 5 => 5 | 9 => 9 | 66 => 191 | 70 => 195 | 76 => 201 | 77 => 202 | n => n, fun | n => n⟩
theorem Try.sortDots : Go.Proofs.SlLaysF0.n6 Try.prog Try.sortDots_ren := {
  mixed := by kernel_rfl
  f6 := ⟨Try.f93.name, by decide, Try.func93.trans (congrArg some (by kernel_rfl))⟩
  f14 := ⟨Try.f110.name, by decide, Try.func110.trans (congrArg some (by kernel_rfl))⟩
  f15 := Try.func111.trans (congrArg some (by kernel_rfl))
  f20 := ⟨Try.f119.name, by decide, Try.func119.trans (congrArg some (by kernel_rfl))⟩
  f21 := ⟨Try.f120.name, by decide, Try.func120.trans (congrArg some (by kernel_rfl))⟩
  f22 := ⟨Try.f121.name, by decide, Try.func121.trans (congrArg some (by kernel_rfl))⟩
  f23 := ⟨Try.f122.name, by decide, Try.func122.trans (congrArg some (by kernel_rfl))⟩
  f24 := ⟨Try.f123.name, by decide, Try.func123.trans (congrArg some (by kernel_rfl))⟩
  f25 := ⟨Try.f124.name, by decide, Try.func124.trans (congrArg some (by kernel_rfl))⟩
  f26 := ⟨Try.f125.name, by decide, Try.func125.trans (congrArg some (by kernel_rfl))⟩
  f27 := ⟨Try.f126.name, by decide, Try.func126.trans (congrArg some (by kernel_rfl))⟩
  f28 := Try.func127.trans (congrArg some (by kernel_rfl))
  f29 := Try.func128.trans (congrArg some (by kernel_rfl))
  f46 := ⟨Try.f140.name, by decide, Try.func140.trans (congrArg some (by kernel_rfl))⟩
  f47 := Try.func141.trans (congrArg some (by kernel_rfl))
  f48 := Try.func142.trans (congrArg some (by kernel_rfl))
  f49 := ⟨Try.f143.name, by decide, Try.func143.trans (congrArg some (by kernel_rfl))⟩
  f50 := ⟨Try.f144.name, by decide, Try.func144.trans (congrArg some (by kernel_rfl))⟩
  f57 := ⟨Try.f150.name, by decide, Try.func150.trans (congrArg some (by kernel_rfl))⟩
  t0 := Try.underlying0
  a0 := Try.isAgg0
  z0 := Try.sizeOf0
  v0 := Try.zeroValue0
  t3 := Try.underlying3
  a3 := Try.isAgg3
  z3 := Try.sizeOf3
  v3 := Try.zeroValue3
  t4 := Try.underlying4
  a4 := Try.isAgg4
  z4 := Try.sizeOf4
  v4 := Try.zeroValue4
  t5 := Try.underlying5
  a5 := Try.isAgg5
  z5 := Try.sizeOf5
  v5 := Try.zeroValue5
  t9 := Try.underlying9
  a9 := Try.isAgg9
  z9 := Try.sizeOf9
  v9 := Try.zeroValue9
  t22 := Try.underlying33
  a22 := Try.isAgg33
  z22 := Try.sizeOf33
  v22 := Try.zeroValue33
  t25 := Try.underlying149
  a25 := Try.isAgg149
  z25 := Try.sizeOf149
  v25 := Try.zeroValue149
  t39 := Try.underlying146
  a39 := Try.isAgg146
  z39 := Try.sizeOf146
  v39 := Try.zeroValue146
  t45 := Try.underlying175
  a45 := Try.isAgg175
  z45 := Try.sizeOf175
  v45 := Try.zeroValue175
  t46 := Try.underlying176
  a46 := Try.isAgg176
  z46 := Try.sizeOf176
  v46 := Try.zeroValue176
  t50 := Try.underlying180
  a50 := Try.isAgg180
  z50 := Try.sizeOf180
  v50 := Try.zeroValue180
  t53 := Try.underlying73
  a53 := Try.isAgg73
  z53 := Try.sizeOf73
  v53 := Try.zeroValue73
  t55 := Try.underlying83
  a55 := Try.isAgg83
  z55 := Try.sizeOf83
  v55 := Try.zeroValue83
  t66 := Try.underlying191
  a66 := Try.isAgg191
  z66 := Try.sizeOf191
  v66 := Try.zeroValue191
  t70 := Try.underlying195
  a70 := Try.isAgg195
  z70 := Try.sizeOf195
  v70 := Try.zeroValue195
  t76 := Try.underlying201
  a76 := Try.isAgg201
  z76 := Try.sizeOf201
  v76 := Try.zeroValue201
  t77 := Try.underlying202
  a77 := Try.isAgg202
  z77 := Try.sizeOf202
  v77 := Try.zeroValue202 }
end Go.Proofs
namespace Rm
open Go Go.RowKit Go.Sort
/-- old blocks stand, and no draw is taken back -/
def GrD (w w' : World) : Prop := Gr w w' ∧ w.drawn ≤ w'.drawn
theorem GrD.refl (w : World) : GrD w w := ⟨Gr.refl w, Nat.le_refl _⟩
theorem GrD.alloc {a w : World} (h : GrD a w) (o : Obj) : GrD a (w.alloc o) := ⟨h.1.alloc o, h.2⟩
theorem GrD.drew {a w : World} (h : GrD a w) : GrD a w.drew := ⟨h.1.drew, Nat.le_succ_of_le h.2⟩
theorem GrD.drewN {a w : World} (h : GrD a w) (n : Nat) : GrD a (w.drewN n) := ⟨h.1.drewN n, Nat.le_trans h.2 (Nat.le_add_right _ _)⟩
theorem GrD.grow {w w' : World} (h : GrD w w') : ∃ q os, w' = Go.Sort.grow (w.drewN q) os := by
  refine ⟨w'.drawn - w.drawn, w'.heap.extract w.heap.size w'.heap.size, ?_⟩
  obtain ⟨g, hd⟩ := h
  have hsz := g.size
  have hh : w'.heap = w.heap ++ w'.heap.extract w.heap.size w'.heap.size := by
    apply Array.ext_getElem?
    intro k
    rcases Nat.lt_or_ge k w.heap.size with c | c
    · rw [Array.getElem?_append_left c]; exact Below.block g k c
    · rw [Array.getElem?_append_right c, Array.getElem?_extract]
      split
      · rw [Nat.add_sub_cancel' c]
      · rw [Array.getElem?_eq_none (by omega)]
  cases w' with
  | mk heap tape drawn os output =>
    have e1 := g.tape
    have e2 := g.os
    have e3 := g.output
    simp only at e1 e2 e3 hd hh
    simp only [Go.Sort.grow, World.drewN]
    rw [← hh, e1, e2, e3]
    congr 1
    omega
/-- a dot's two cells -/
def encD (x : Nat × Nat) : List Value := [.int .i64 x.1, .int .i64 x.2]
def cmpD (x y : Nat × Nat) : Int := if Lib.compareInt (x.1 : Int) y.1 != 0 then Lib.compareInt (x.1 : Int) y.1 else Lib.compareInt (x.2 : Int) y.2
theorem cmpInt_cases (x y : Int) : (Lib.compareInt x y = -1 ∧ x < y) ∨ (Lib.compareInt x y = 0 ∧ x = y) ∨ (Lib.compareInt x y = 1 ∧ y < x) := by
  unfold Lib.compareInt
  by_cases h1 : x < y
  · simp [h1]
  · by_cases h2 : y < x
    · simp [h1, h2]
    · simp [h1, h2]; omega
theorem cmpD_lt (x y : Nat × Nat) : Go.Proofs.ltOf cmpD x y = true ↔ ltD x y := by
  unfold Go.Proofs.ltOf cmpD ltD
  rcases cmpInt_cases x.1 y.1 with ⟨e, h⟩ | ⟨e, h⟩ | ⟨e, h⟩
  · simp [e]; omega
  · rw [e]
    rcases cmpInt_cases x.2 y.2 with ⟨e', h'⟩ | ⟨e', h'⟩ | ⟨e', h'⟩ <;> simp [e'] <;> omega
  · simp [e]; omega
theorem cmpD_ge (x y : Nat × Nat) : (0 ≤ cmpD x y) ↔ ¬ ltD x y := by
  rw [← cmpD_lt]; unfold Go.Proofs.ltOf; simp
theorem swoD : SWO (Go.Proofs.ltOf cmpD) where
  irrefl x := by rw [Bool.eq_false_iff]; rw [ne_eq, cmpD_lt]; exact ltD_irr x
  trans x y z h1 h2 := by rw [cmpD_lt] at *; exact ltD_trans h1 h2
  ntrans x y z h1 h2 := by rw [Bool.eq_false_iff, ne_eq, cmpD_lt] at *; unfold ltD at *; omega
theorem flatK_eq (l : List (Nat × Nat)) : flatK encD 2 l.toArray = (flat (pairs l)).toArray := by
  apply Array.ext_getElem?
  intro t
  have hl : (flat (pairs l)).length = l.length * 2 := by rw [flat_len, pairs_len]
  rcases Nat.lt_or_ge t (l.length * 2) with c | c
  · have h1 : t < (flatK encD 2 l.toArray).size := by simpa using c
    have h2 := get_flatK encD 2 l.toArray t (by simpa using c)
    rw [getElem!_pos (flatK encD 2 l.toArray) t h1] at h2
    rw [Array.getElem?_eq_getElem h1, h2]
    have hd : t / 2 < l.length := by omega
    obtain ⟨p, hp⟩ : ∃ p, l[t / 2]? = some p := ⟨_, List.getElem?_eq_getElem hd⟩
    have h3 := flat_at (pairs l) (t / 2) _ (pairs_at hp)
    have h4 : l.toArray[t / 2]! = p := by
      rw [getElem!_pos l.toArray (t / 2) (by simpa using hd)]
      have := List.getElem?_eq_some_iff.1 hp
      simpa using this.2
    rw [h4]
    have hm : t % 2 = 0 ∨ t % 2 = 1 := by omega
    rcases hm with e | e
    · have e' : t = t / 2 * 2 := by omega
      rw [e]
      have := h3.1
      rw [← e'] at this
      simpa [encD] using this.symm
    · have e' : t = t / 2 * 2 + 1 := by omega
      rw [e]
      have := h3.2
      rw [← e'] at this
      simpa [encD] using this.symm
  · rw [Array.getElem?_eq_none (by simpa using c), Array.getElem?_eq_none (by simp; omega)]
end Rm
namespace Go.Proofs.Ytghjfakellaecaa
open Go.RowKit Rm Go.Sort
set_option linter.unusedVariables false
set_option linter.unusedSimpArgs false

set_option maxHeartbeats 400000 in
set_option maxRecDepth 100000 in
theorem nan_any (x : Int) (w : World) : Calls Try.prog 129 #[.int .i64 x] w fun e w' => e = .returned (.bool false) ∧ w' = w := by
  go_enter Try.func129, Try.ntmps129
  go_wp2
  go_ret
  exact ⟨by simp, rfl⟩
set_option maxHeartbeats 1000000 in
set_option maxRecDepth 100000 in
theorem cmp_any (x y : Int) (w : World) : Calls Try.prog 112 #[.int .i64 x, .int .i64 y] w fun e w' => e = .returned (.int .i64 (Lib.compareInt x y)) ∧ w' = w := by
  go_enter Try.func112, Try.ntmps112
  go_wp2_with (go_at_call 129; refine (nan_any _ _).mono ?_; rintro e w' ⟨rfl, hw⟩; rw [hw])
  all_goals (go_ret; refine ⟨?_, rfl⟩; unfold Lib.compareInt; (repeat' split) <;> first | rfl | (exfalso; omega))

set_option maxHeartbeats 1000000 in
set_option maxRecDepth 100000 in
theorem or_any (x y : Int) (B c : Nat) (w : World) (h0 : w.cell? ⟨B, 0, none⟩ = some (.int .i64 x)) (h1 : w.cell? ⟨B, 1, none⟩ = some (.int .i64 y)) :
    Calls Try.prog 102 #[.slice (some ⟨B, 0, none⟩) 2 c] w fun e w' => e = .returned (.int .i64 (if x != 0 then x else y)) ∧ w' = w := by
  by_cases hx : x = 0
  · subst hx
    by_cases hy : y = 0
    · subst hy
      go_enter Try.func102, Try.ntmps102
      go_wp2
      go_loop [5, 8] (fun a i => ∃ k : Nat, k ≤ 2 ∧ i = .int .i64 k) (fun _ i => 2 - (intOf i).toNat)
      case atStart => exact ⟨0, by omega, rfl⟩
      case round =>
        obtain ⟨k, hk, rfl⟩ := hrel
        match k, hk with
        | 0, _ =>
          go_wp2
          go_round
          case rel => exact ⟨1, by omega, by go_num⟩
          case measure => simp [intOf]
        | 1, _ =>
          go_wp2
          go_round
          case rel => exact ⟨2, by omega, by go_num⟩
          case measure => simp [intOf]
        | 2, _ =>
          go_wp2
          go_ret
          exact ⟨rfl, rfl⟩
    · have hb : (y != 0) = true := by simpa using hy
      go_enter Try.func102, Try.ntmps102
      go_wp2
      go_loop [5, 8] (fun a i => ∃ k : Nat, k ≤ 1 ∧ i = .int .i64 k) (fun _ i => 2 - (intOf i).toNat)
      case atStart => exact ⟨0, by omega, rfl⟩
      case round =>
        obtain ⟨k, hk, rfl⟩ := hrel
        match k, hk with
        | 0, _ =>
          go_wp2
          go_round
          case rel => exact ⟨1, by omega, by go_num⟩
          case measure => simp [intOf]
        | 1, _ =>
          go_wp2
          go_ret
          exact ⟨rfl, rfl⟩
  · have hb : (x != 0) = true := by simpa using hx
    go_enter Try.func102, Try.ntmps102
    go_wp2
    go_loop [5, 8] (fun a i => i = .int .i64 0) (fun _ i => 2 - (intOf i).toNat)
    case atStart => rfl
    case round =>
      subst hrel
      go_wp2
      go_ret
      exact ⟨by simp [hb], rfl⟩

set_option maxHeartbeats 1000000 in
set_option maxRecDepth 100000 in
theorem compare_any (x y : Nat × Nat) (w : World) :
    Calls Try.prog 94 #[.agg #[.int .i64 x.1, .int .i64 x.2], .agg #[.int .i64 y.1, .int .i64 y.2]] w fun e w' => e = .returned (.int .i64 (cmpD x y)) ∧ GrD w w' := by
  have H1 := Lib.hid (cmp_any (x.1 : Int) (y.1 : Int))
  have H2 := Lib.hid (cmp_any (x.2 : Int) (y.2 : Int))
  have H3 := Lib.hid (or_any (Lib.compareInt (x.1 : Int) y.1) (Lib.compareInt (x.2 : Int) y.2))
  have HD : Hid (cmpD x y = if Lib.compareInt (x.1 : Int) y.1 != 0 then Lib.compareInt (x.1 : Int) y.1 else Lib.compareInt (x.2 : Int) y.2) := rfl
  generalize Lib.compareInt (x.1 : Int) y.1 = c1 at *
  generalize Lib.compareInt (x.2 : Int) y.2 = c2 at *
  generalize cmpD x y = r at *
  obtain ⟨x1, x2⟩ := x
  obtain ⟨y1, y2⟩ := y
  go_enter Try.func94, Try.ntmps94
  go_wp2_with fail
  have T0 := (Two.new w x1 x2 26).alloc (.cells #[.int .i64 (y1 : Int), .int .i64 (y2 : Int)] 26)
  have T1 := Two.new (w.alloc (.cells #[.int .i64 (x1 : Int), .int .i64 (x2 : Int)] 26)) y1 y2 26
  have G0 := Lib.hid (((GrD.refl w).alloc (.cells #[.int .i64 (x1 : Int), .int .i64 (x2 : Int)] 26)).alloc (.cells #[.int .i64 (y1 : Int), .int .i64 (y2 : Int)] 26))
  rw [World.size_alloc] at T1
  generalize (w.alloc (.cells #[.int .i64 (x1 : Int), .int .i64 (x2 : Int)] 26)).alloc (.cells #[.int .i64 (y1 : Int), .int .i64 (y2 : Int)] 26) = w2 at *
  obtain ⟨t1, t2, t3⟩ := T0
  obtain ⟨u1, u2, u3⟩ := T1
  clear t1 u1
  go_still_tail 10, (by kernel_rfl)
  still_call (H1.out _)
  repeat still_step
  still_call (H2.out _)
  repeat still_step
  refine wpStill_nil ?_
  change wpList _ _ _ _ _ w2.drew
  have G1 := Lib.hid (G0.out.drew)
  clear t2 t3 u2 u3 G0 H1 H2
  generalize w2.drew = w3 at *
  have HC : Hid (∀ c, Calls Try.prog 102 #[.slice (some ⟨w3.heap.size, 0, none⟩) 2 c] (w3.alloc (.cells #[.int .i64 c1, .int .i64 c2] 3)) fun e w' => e = .returned (.int .i64 r) ∧ w' = w3.alloc (.cells #[.int .i64 c1, .int .i64 c2] 3)) :=
    fun c => by rw [HD.out]; exact H3.out _ c _ (by simp [go_sem]) (by simp [go_sem])
  go_wp2_with (go_at_call 102; refine (HC.out _).mono ?_; rintro e w' ⟨rfl, rfl⟩)
  go_ret
  exact ⟨rfl, G1.out.alloc _⟩
theorem enter_compare (args : Array Value) (w : World) : (callFunc 94 args).run Try.prog w = .ok (.enter 94 args) w := enters_of Try.func94 (by kernel_rfl) rfl _ _
theorem compare_lays (blk off size : Nat) (w : World) : CmpLays Try.prog 94 #[] encD 2 cmpD blk off size w :=
  fun m os dk _ x y => (compare_any x y _).mono fun e w' ⟨h1, h2⟩ => ⟨h1, h2.grow⟩

theorem heap_put {w : World} {g n : Nat} {os : Array Obj} {cur : Array Value} {e : TypeId} {fr : Nat × Nat} (d : Array Value) (hb : w.heap[g]? = some (.cells cur e fr)) :
    (Go.Sort.grow (putRow id (Sort.ahead w n) g 0 d) os).heap[g]? = some (.cells (putCells id 0 d cur) e fr) := by
  have hg : g < w.heap.size := (Array.getElem?_eq_some_iff.1 hb).1
  rw [heap_grow_old _ _ (by simpa using hg)]
  simp [putRow, mapBlock, Sort.ahead, Array.getElem?_modify, hb, onCells]
theorem grown_put {w : World} {g n : Nat} {os : Array Obj} (d : Array Value) : w.grownBy (Go.Sort.grow (putRow id (Sort.ahead w n) g 0 d) os) (some g) := by
  refine ⟨rfl, rfl, rfl, by simp, fun k hk hne => ?_⟩
  rw [heap_grow_old _ _ (by simpa using hk)]
  have : g ≠ k := fun e => hne (by rw [e])
  simp [putRow, mapBlock, Sort.ahead, Array.getElem?_modify, this]
theorem take_put (cur : Array Value) (ts : List Value) (h : ts.length ≤ cur.size) : (putCells id 0 ts.toArray cur).toList.take ts.length = ts := by
  apply List.ext_getElem?
  intro j
  by_cases hj : j < ts.length
  · rw [List.getElem?_take_of_lt hj, Array.getElem?_toList]
    simp [putCells, hj, show j < cur.size by omega]
  · rw [List.getElem?_take_eq_none (by omega), List.getElem?_eq_none (by omega)]

set_option maxHeartbeats 1000000 in
set_option maxRecDepth 100000 in
/-- a list of dots that owns its row is sorted where it lies -/
theorem sort_own (l : List (Nat × Nat)) (v : Value) (w : World) (base : Nat) (hl : l.length ≤ 1000) (ho : w.ownsRow base 26 2 v l.length (flat (pairs l))) :
    Calls Try.prog 93 #[v, .func (.func 94) #[] #[]] w fun e w' => e = .returned (.tuple #[]) ∧
      ∃ l' : List (Nat × Nat), l'.Perm l ∧ l'.Pairwise (fun a b => ¬ ltD b a) ∧ w'.ownsRow base 26 2 v l'.length (flat (pairs l')) ∧ w.grownBy w' v.ownBlock := by
  obtain ⟨hxl, ⟨rfl, hn⟩ | ⟨g, cap, cur, rfl, hbg, hg, hnc, hcm, hcs, htake⟩⟩ := ho
  · obtain rfl : l = [] := List.eq_nil_of_length_eq_zero hn
    refine (AnyF.slices_SortFunc_none Try.sortDots none 0 _ w).mono ?_
    rintro e w' ⟨rfl, rfl⟩
    exact ⟨rfl, [], List.Perm.refl _, List.Pairwise.nil, World.ownsRow_nil _ _ _ _, ⟨rfl, rfl, rfl, Nat.le_refl _, fun _ _ _ => rfl⟩⟩
  · have hlt : g < w.heap.size := (Array.getElem?_eq_some_iff.1 hg).1
    have hfl : (flat (pairs l)).length = l.length * 2 := by rw [flat_len, pairs_len]
    have hH : HoldsK encD 2 w g 0 l.toArray := by
      unfold HoldsK
      rw [flatK_eq]
      intro j hj
      have hj' : j < (flat (pairs l)).length := by simpa using hj
      refine ⟨?_, by simp [World.frozen?, hg]⟩
      have h1 : (cur.toList.take (l.length * 2))[j]? = (flat (pairs l))[j]? := by rw [htake]
      rw [List.getElem?_take_of_lt (by omega)] at h1
      simp only [World.cell?, hg, Nat.zero_add]
      simp only [Option.isSome_none, Bool.false_eq_true, if_false]
      rw [← Array.getElem?_toList, h1]
      simp [hj']
    have hcon := AnyQ.slices_SortFunc Try.sortDots 2 Try.isAgg26 Try.sizeOf26 encD (fun _ => rfl) (fun x v hv => by simp [encD] at hv; rcases hv with rfl | rfl <;> rfl) cmpD swoD 94 #[] g 0 cap l.toArray w enter_compare (compare_lays g 0 _ w) hH hlt (by simp; omega)
    refine hcon.mono ?_
    rintro e w' ⟨rfl, d', n, os, hp, hs, rfl⟩
    obtain ⟨hsz, -, hperm⟩ := hp
    have hsz' : d'.toList.length = l.length := by simpa using hsz
    have hpl : d'.toList.Perm l := by
      have e1 : (d'.extract 0 l.toArray.size) = d' := by rw [← hsz]; simp
      have e2 : (l.toArray.extract 0 l.toArray.size) = l.toArray := by simp
      rw [e1, e2] at hperm
      simpa using hperm
    refine ⟨rfl, d'.toList, hpl, ?_, ?_, ?_⟩
    · rw [List.pairwise_iff_getElem]
      intro i j hi hj hij hlt
      have h1 := hs i j (Nat.zero_le _) hij (by rw [← hsz]; simpa using hj)
      rw [Bool.eq_false_iff, ne_eq, cmpD_lt] at h1
      apply h1
      rw [getElem!_pos d' j (by simpa using hj), getElem!_pos d' i (by simpa using hi)]
      simpa using hlt
    · have hfk : flatK encD 2 d' = (flat (pairs d'.toList)).toArray := by
        have := flatK_eq d'.toList
        simpa using this
      have hfl' : (flat (pairs d'.toList)).length = l.length * 2 := by rw [flat_len, pairs_len, hsz']
      refine ⟨by rw [flat_len, pairs_len], .inr ⟨g, cap, putCells id 0 (flatK encD 2 d') cur, by rw [hsz'], hbg, ?_, by omega, hcm, by simp [putCells, hcs], ?_⟩⟩
      · exact heap_put _ hg
      · rw [hfk, hsz', ← hfl']
        refine take_put cur _ ?_
        rw [hfl', hcs]
        exact Nat.mul_le_mul_right 2 hnc
    · exact grown_put _
end Go.Proofs.Ytghjfakellaecaa
