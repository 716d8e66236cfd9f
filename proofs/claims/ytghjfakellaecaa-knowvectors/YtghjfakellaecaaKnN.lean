/- know.Join, Meet of sets in their form. -/
import Derived.Test.YtghjfakellaecaaKnM
import Derived.StillTailTactics
set_option linter.unusedVariables false
set_option linter.unusedSimpArgs false
namespace Rm
open Go Go.RowKit
theorem cArr_ext {a b : List Nat} (h : ∀ s, s < 5 → cv a s = cv b s) : cArr a = cArr b := by
  unfold cArr
  rw [h 0 (by omega), h 1 (by omega), h 2 (by omega), h 3 (by omega), h 4 (by omega)]
/-- counts of which the first i are of both -/
def mixV (f : Nat → Nat → Nat) (v v' : List Nat) (i : Nat) : List Nat := (List.range 5).map fun j => if j < i then f (cv v j) (cv v' j) else cv v j
theorem mixV_cv (f : Nat → Nat → Nat) (v v' : List Nat) (i s : Nat) (hs : s < 5) : cv (mixV f v v' i) s = if s < i then f (cv v s) (cv v' s) else cv v s := by
  unfold mixV cv
  rw [List.getD_eq_getElem?_getD, List.getElem?_map, List.getElem?_range hs]
  rfl
theorem mixV_zero (f : Nat → Nat → Nat) (v v' : List Nat) : cArr (mixV f v v' 0) = cArr v := cArr_ext fun s hs => by rw [mixV_cv f v v' 0 s hs, if_neg (by omega)]
theorem mixV_step (f : Nat → Nat → Nat) (v v' : List Nat) (i : Nat) (hi : i < 5) : (cArr (mixV f v v' i)).setIfInBounds i (.int .i64 ((f (cv v i) (cv v' i) : Nat) : Int)) = cArr (mixV f v v' (i + 1)) := by
  rw [cArr_setC _ _ _ hi]
  refine cArr_ext fun s hs => ?_
  rw [cv_setC _ _ _ _ hi hs, mixV_cv f v v' (i + 1) s hs]
  by_cases e : s = i
  · subst e; rw [if_pos rfl, if_pos (by omega)]
  · rw [if_neg e, mixV_cv f v v' i s hs]
    by_cases e' : s < i
    · rw [if_pos e', if_pos (by omega)]
    · rw [if_neg e', if_neg (by omega)]
theorem join_eq {v v' : List Nat} {m m' : List (Nat × Nat)} : EqD (upD (mixV max v v' 5) (m ++ m')) (orD (memB v m) (memB v' m')) := by
  rintro s c ⟨hs, h1, h2⟩
  rw [Bool.eq_iff_iff]
  unfold orD
  rw [Bool.or_eq_true, memB_iff, memB_iff]
  simp only [upD, Bool.or_eq_true, decide_eq_true_eq, List.contains_iff_mem, List.mem_append]
  rw [mixV_cv max v v' 5 s hs, if_pos hs]
  have : c ≤ max (cv v s) (cv v' s) ↔ c ≤ cv v s ∨ c ≤ cv v' s := by omega
  rw [this]
  constructor
  · rintro (⟨_, q | q⟩ | q | q)
    · exact .inl (.inl ⟨h1, q⟩)
    · exact .inr (.inl ⟨h1, q⟩)
    · exact .inl (.inr q)
    · exact .inr (.inr q)
  · rintro ((q | q) | (q | q))
    · exact .inl ⟨h1, .inl q.2⟩
    · exact .inr (.inl q)
    · exact .inl ⟨h1, .inr q.2⟩
    · exact .inr (.inr q)
theorem mem_comL {l : List (Nat × Nat)} {v : List Nat} {m : List (Nat × Nat)} {s c : Nat} : (s, c) ∈ comL l v m ↔ (s, c) ∈ l ∧ memB v m s c = true := by simp [comL]
theorem meet_eq {v v' : List Nat} {m m' : List (Nat × Nat)} : EqD (upD (mixV min v v' 5) (comL m v' m' ++ comL m' v m)) (andD (memB v m) (memB v' m')) := by
  rintro s c ⟨hs, h1, h2⟩
  rw [Bool.eq_iff_iff]
  unfold andD
  rw [Bool.and_eq_true]
  simp only [upD, Bool.or_eq_true, decide_eq_true_eq, List.contains_iff_mem, List.mem_append, mem_comL]
  rw [mixV_cv min v v' 5 s hs, if_pos hs, memB_iff, memB_iff]
  have : c ≤ min (cv v s) (cv v' s) ↔ c ≤ cv v s ∧ c ≤ cv v' s := by omega
  rw [this]
  constructor
  · rintro (⟨_, q, q'⟩ | ⟨q, q'⟩ | ⟨q, q'⟩)
    · exact ⟨.inl ⟨h1, q⟩, .inl ⟨h1, q'⟩⟩
    · exact ⟨.inr q, q'⟩
    · exact ⟨q', .inr q⟩
  · rintro ⟨q | q, q' | q'⟩
    · exact .inl ⟨h1, q.2, q'.2⟩
    · exact .inr (.inr ⟨q', .inl q⟩)
    · exact .inr (.inl ⟨q, .inl q'⟩)
    · exact .inr (.inl ⟨q, .inr q'⟩)
theorem mix_le {f : Nat → Nat → Nat} (hf : ∀ a b, f a b ≤ max a b) {v v' : List Nat} (h : ∀ x ∈ v, x ≤ 1000) (h' : ∀ x ∈ v', x ≤ 1000) : ∀ s, s < 5 → cv (mixV f v v' 5) s ≤ 1000 := by
  intro s hs
  rw [mixV_cv f v v' 5 s hs, if_pos hs]
  have := hf (cv v s) (cv v' s)
  have := cv_le h s
  have := cv_le h' s
  omega
theorem OkV.ins {v : List Nat} {m : List (Nat × Nat)} (h : OkV v m) : ∀ d ∈ m, Rm.inR d.1 d.2 := fun d hd => by
  have := h.dots d hd
  exact ⟨this.1, by omega, this.2.1⟩
end Rm
namespace Go.Proofs.Ytghjfakellaecaa
open Go.RowKit Rm
theorem grown_setRow (w : World) (g : Nat) (cs : Array Value) : w.grownBy (w.setRow g cs) (some g) := ⟨rfl, rfl, rfl, by simp, fun k _ hk => setRow_other w g k _ (fun e => hk (by rw [e]))⟩
theorem own_setRow {w : World} {base g : Nat} {e : TypeId} {s n : Nat} {v : Value} {xs : List Value} (h : w.ownsRow base e s v n xs) (hg : g < base) (cs : Array Value) : (w.setRow g cs).ownsRow base e s v n xs := by
  refine h.kept (grown_setRow w g cs) ?_
  cases e : v.ownBlock with
  | none => exact .inl rfl
  | some b => exact .inr (fun e' => by have := (h.lt b e).1; have := Option.some.inj e'; omega)
theorem KnO.setRow {base g : Nat} {w : World} {k : Value} {v : List Nat} {m : List (Nat × Nat)} (h : KnO base w k v m) (hg : g < base) (cs : Array Value) : KnO base (w.setRow g cs) k v m := by
  obtain ⟨vv, mv, e, h1, h2⟩ := h
  exact ⟨vv, mv, e, own_setRow h1 hg cs, own_setRow h2 hg cs⟩
theorem frmK.setRow {base g : Nat} {w : World} {e : Ending} {D : DS} (h : frmK base w e D) (hg : g < base) (cs : Array Value) : frmK base (w.setRow g cs) e D := by
  obtain ⟨k, r, h1, ⟨h2, h3, h4⟩ | ⟨h2, h3, h4⟩⟩ := h
  · exact ⟨k, r, h1, .inl ⟨h2, h3, h4.setRow hg cs⟩⟩
  · exact ⟨k, r, h1, .inr ⟨h2, h3, h4.setRow hg cs⟩⟩
theorem frmK.form {base : Nat} {w : World} {e : Ending} {D : DS} (h : frmK base w e D) : ∃ a1 n1 c1 a2 n2 c2 r, e = .returned (.tuple #[.agg #[.slice a1 n1 c1, .slice a2 n2 c2], .int .i64 r]) ∧ frmK base w (.returned (.tuple #[.agg #[.slice a1 n1 c1, .slice a2 n2 c2], .int .i64 r])) D := by
  obtain ⟨k, r, rfl, h1⟩ := id h
  have hk : ∃ v m, KnO base w k v m := by rcases h1 with ⟨_, _, q⟩ | ⟨_, _, q⟩ <;> exact ⟨_, _, q⟩
  obtain ⟨v, m, vv, mv, rfl, o1, o2⟩ := hk
  obtain ⟨a1, c1, rfl, -⟩ := own_formD o1
  obtain ⟨a2, c2, rfl, -⟩ := own_formD o2
  exact ⟨_, _, _, _, _, _, _, rfl, h⟩
theorem src2 {W : World} {b : Nat} {u u' : Value} {t : TypeId} {fr : Nat × Nat} {n n' : Nat} {xs xs' : List Value} (hb : W.heap[b]? = some (.cells #[u, u'] t fr)) (h : RdC 2 W u n xs) (h' : RdC 2 W u' n' xs') : SrcD W b [(n, xs), (n', xs')] := by
  refine ⟨(Array.getElem?_eq_some_iff.1 hb).1, fun i p hp => ?_⟩
  match i, hp with
  | 0, hp => simp at hp; subst hp; exact ⟨u, kc0 hb, h⟩
  | 1, hp => simp at hp; subst hp; exact ⟨u', kc1 hb, h'⟩
  | i + 2, hp => simp at hp
theorem flat_two (l l' : List (Nat × Nat)) : catD [(l.length, flat (pairs l)), (l'.length, flat (pairs l'))] = flat (pairs (l ++ l')) := by simp [catD, pairs, flat]
theorem sum_two (l l' : List (Nat × Nat)) : sumD [(l.length, flat (pairs l)), (l'.length, flat (pairs l'))] = (l ++ l').length := by simp [sumD]
/-- two lists put together -/
theorem concat_two {W : World} {b : Nat} {u u' : Value} {t : TypeId} {fr : Nat × Nat} {l l' : List (Nat × Nat)} (hb : W.heap[b]? = some (.cells #[u, u'] t fr)) (h : RdC 2 W u l.length (flat (pairs l))) (h' : RdC 2 W u' l'.length (flat (pairs l'))) (hl : l.length + l'.length ≤ 1000) :
    Calls Try.prog 64 #[.slice (some ⟨b, 0, none⟩) 2 2] W fun e W' => ∃ u, e = .returned u ∧ Gr W W' ∧ W'.ownsRow W.heap.size 26 2 u (l ++ l').length (flat (pairs (l ++ l'))) := by
  have hs := sum_two l l'
  have := concatD [(l.length, flat (pairs l)), (l'.length, flat (pairs l'))] b 2 W (src2 hb h h') (by rw [hs, List.length_append]; exact hl) (by simp)
  rw [hs, flat_two] at this
  exact this
/-- build, called behind Concat, as the regions ask it -/
theorem build_then {w W W' : World} {u : Value} {V : List Nat} {L : List (Nat × Nat)} (D : DS) (hD : EqD (upD V L) D) (hv : ∀ s, s < 5 → cv V s ≤ 1000) (hL : ∀ d ∈ L, inR d.1 d.2) (hlen : L.length ≤ 1000) (g : Gr w W) (g' : Gr W W') (ho : W'.ownsRow W.heap.size 26 2 u L.length (flat (pairs L))) :
    Calls Try.prog 63 #[.agg (cArr V), u] W' fun e W'' => ∃ a1 n1 c1 a2 n2 c2 r, e = .returned (.tuple #[.agg #[.slice a1 n1 c1, .slice a2 n2 c2], .int .i64 r]) ∧ Gr w W'' ∧ frmK w.heap.size W'' (.returned (.tuple #[.agg #[.slice a1 n1 c1, .slice a2 n2 c2], .int .i64 r])) D := by
  refine (build_any V L u W' W.heap.size hv hL hlen ho g'.le).mono ?_
  rintro e W'' ⟨h1, h2⟩
  obtain ⟨a1, n1, c1, a2, n2, c2, r, he, hf⟩ := (h1.congr hD).form
  exact ⟨a1, n1, c1, a2, n2, c2, r, he, Below.trans (g.trans g') (Below.mono h2 g.le), hf.less (g.trans g').le⟩

set_option maxHeartbeats 2000000 in
set_option maxRecDepth 100000 in
theorem join_ok (k k' : Value) (v v' : List Nat) (m m' : List (Nat × Nat)) (w : World) (hk : KnR w k (ints v) (pairs m)) (hk' : KnR w k' (ints v') (pairs m')) (ho : OkV v m) (ho' : OkV v' m') (hl : m.length ≤ 60) (hl' : m'.length ≤ 60) :
    Calls Try.prog 22 #[k, k'] w fun e w' => frmK w.heap.size w' e (orD (memB v m) (memB v' m')) ∧ Gr w w' := by
  have H1 : Hid (∀ W, Gr w W → Calls Try.prog 60 #[k, k'] W fun e w' => e = .returned (.int .i64 0) ∧ Gr W w') := fun W g => by
    have := kcheckBoth k k' _ _ _ _ W (hk.gr g) (hk'.gr g)
    rw [ho.chk hl, ho'.chk hl'] at this
    simpa using this
  have HC : Hid (∀ W, Gr w W → Calls Try.prog 61 #[k] W fun e w' => e = .returned (.agg (cArr v)) ∧ Gr W w') := fun W g => countsOf_any k v _ W (hk.gr g) ho.len
  have HC' : Hid (∀ W, Gr w W → Calls Try.prog 61 #[k'] W fun e w' => e = .returned (.agg (cArr v')) ∧ Gr W w') := fun W g => countsOf_any k' v' _ W (hk'.gr g) ho'.len
  obtain ⟨vv, mv, rfl, r1, r2, r3⟩ := hk
  obtain ⟨vv', mv', rfl, r1', r2', r3'⟩ := hk'
  obtain ⟨va, vc, rfl, -⟩ := id r1
  obtain ⟨ma, mc, rfl, -⟩ := id r2
  obtain ⟨va', vc', rfl, -⟩ := id r1'
  obtain ⟨ma', mc', rfl, -⟩ := id r2'
  have hpl := pairs_len m
  have hpl' := pairs_len m'
  have R3 := Lib.hid r3
  have R3' := Lib.hid r3'
  have HLv := Lib.hid (fun s => cv_le ho.le s)
  have HLv' := Lib.hid (fun s => cv_le ho'.le s)
  have HML := Lib.hid (mix_le (f := max) (fun a b => by omega) ho.le ho'.le)
  have HIN := Lib.hid ho.ins
  have HIN' := Lib.hid ho'.ins
  generalize hN1 : (ints v).length = N1 at *
  generalize hN2 : (pairs m).length = N2 at *
  generalize hN1' : (ints v').length = N1' at *
  generalize hN2' : (pairs m').length = N2' at *
  have HN2 := Lib.hid hpl
  have HN2' := Lib.hid hpl'
  clear r1 r2 r3 r1' r2' r3' ho ho' hN1 hN2 hN1' hN2' hpl hpl'
  generalize hU : (Value.slice va N1 vc) = U at *
  generalize hU' : (Value.slice va' N1' vc') = U' at *
  have HU := Lib.hid hU
  have HU' := Lib.hid hU'
  clear hU hU'
  have G3 := Lib.hid ((((Gr.refl w).alloc (.cells #[U, .slice ma N2 mc] 35)).alloc (.cells #[U', .slice ma' N2' mc'] 35)).alloc (.cells #[.slice none 0 0, .slice none 0 0] 35))
  have B0 : Hid ((((w.alloc (.cells #[U, .slice ma N2 mc] 35)).alloc (.cells #[U', .slice ma' N2' mc'] 35)).alloc (.cells #[.slice none 0 0, .slice none 0 0] 35)).heap[w.heap.size]? = some (.cells #[U, .slice ma N2 mc] 35 (0, 0))) := (al_old _ _ _ (by simp; omega)).trans ((al_old _ _ _ (by simp)).trans (al_new _ _ _ rfl))
  have B1 : Hid ((((w.alloc (.cells #[U, .slice ma N2 mc] 35)).alloc (.cells #[U', .slice ma' N2' mc'] 35)).alloc (.cells #[.slice none 0 0, .slice none 0 0] 35)).heap[w.heap.size + 1]? = some (.cells #[U', .slice ma' N2' mc'] 35 (0, 0))) := (al_old _ _ _ (by simp)).trans (al_new _ _ _ (by simp))
  have B4 : Hid ((((w.alloc (.cells #[U, .slice ma N2 mc] 35)).alloc (.cells #[U', .slice ma' N2' mc'] 35)).alloc (.cells #[.slice none 0 0, .slice none 0 0] 35)).heap[w.heap.size + 1 + 1]? = some (.cells #[.slice none 0 0, .slice none 0 0] 35 (0, 0))) := al_new _ _ _ (by simp)
  go_enter Try.func22, Try.ntmps22
  go_wp2_with (go_at_call 60; refine (H1.out _ G3.out).mono ?_; rintro e w4 ⟨rfl, g4⟩; have G4 := Lib.hid (G3.out.trans g4); have b0 := (Below.block g4 _ (Array.getElem?_eq_some_iff.1 B0.out).1).trans B0.out; have b1 := (Below.block g4 _ (Array.getElem?_eq_some_iff.1 B1.out).1).trans B1.out; have b4 := (Below.block g4 _ (Array.getElem?_eq_some_iff.1 B4.out).1).trans B4.out; clear g4 B0 B1 B4 G3 H1)
  generalize hg0 : w.heap.size = g0 at *
  have l0 := (Array.getElem?_eq_some_iff.1 b0).1
  have l1 := (Array.getElem?_eq_some_iff.1 b1).1
  have l4 := (Array.getElem?_eq_some_iff.1 b4).1
  refine jn4_reg _ (fun _ _ _ _ _ h => h) _ w4 g0 (g0 + 1) U (.slice ma N2 mc) U' (.slice ma' N2' mc') (cArr v) (cArr v') rfl rfl rfl ⟨b0, b1⟩ l0 l1 rfl (cArr_one v) rfl (cArr_one v') (fun W g => HC.out W (G4.out.trans g)) (fun W g => HC'.out W (G4.out.trans g)) (fun w5 b7 b8 g5 l7 l8 hne e7 e8 => ?_)
  simp only [Act.put, List.setIfInBounds_toArray, List.set_cons_zero, List.set_cons_succ]
  have G5 := Lib.hid (G4.out.trans g5)
  have d0 := Lib.hid ((Below.block g5 _ l0).trans b0)
  have d1 := Lib.hid ((Below.block g5 _ l1).trans b1)
  have d4 := Lib.hid ((Below.block g5 _ l4).trans b4)
  have D7 : Hid (w5.heap[b7]? = some (.cells (cArr (mixV max v v' 0)) 108 (0, 0))) := by rw [mixV_zero]; exact e7
  have D8 := Lib.hid e8
  have hL5 : Hid (w4.heap.size ≤ w5.heap.size) := g5.le
  clear g5 b0 b1 b4 e7 e8 HC HC'
  go_wp2_with fail
  go_loopg [21] 5 (fun gh ix wr => ∃ i : Nat, i ≤ 5 ∧ 5 - i ≤ gh ∧ ix = .int .i64 (i : Int) ∧ Below w4.heap.size w5 wr ∧ wr.heap[b7]? = some (.cells (cArr (mixV max v v' i)) 108 (0, 0)) ∧ wr.heap[b8]? = some (.cells (cArr v') 108 (0, 0)))
  case atStart => exact ⟨0, by omega, by omega, rfl, Below.refl _ _, D7.out, D8.out⟩
  case round =>
    obtain ⟨i, hi, hgh, rfl, hb, e7, e8⟩ := hrel
    have HB := Lib.hid hb
    have E7 := Lib.hid e7
    have E8 := Lib.hid e8
    by_cases hi5 : i < 5
    · have c7 : wr.cell? ⟨b7, i, none⟩ = some (.int .i64 (cv v i : Nat)) := by
        have := cell_cArr e7 hi5
        rw [mixV_cv max v v' i i hi5, if_neg (by omega)] at this
        exact this
      have c8 := cell_cArr e8 hi5
      have f7 : wr.frozen? ⟨b7, i, none⟩ = false := by simp [World.frozen?, e7]
      have HST := Lib.hid (mixV_step max v v' i hi5)
      have hiI : (i : Int) < 5 := by omega
      have q1 : (cv v i : Int) ≤ 1000 := by have := HLv.out i; omega
      have q2 : (cv v' i : Int) ≤ 1000 := by have := HLv'.out i; omega
      have hmx : ((max (cv v i) (cv v' i) : Nat) : Int) = max ((cv v i : Nat) : Int) ((cv v' i : Nat) : Int) := by omega
      have HMX := Lib.hid hmx
      clear e7 e8 hb hmx
      generalize cv v i = x at *
      generalize cv v' i = y at *
      go_wp2_with fail
      go_still_tail 9, (by kernel_rfl)
      repeat still_step
      change wpList _ _ _ _ _ wr.drew
      have HX : Hid (Below w4.heap.size w5 ((wr.drew.setCell ⟨b7, i, none⟩ (.int .i64 (max (x : Int) (y : Int))))) ∧ (wr.drew.setCell ⟨b7, i, none⟩ (.int .i64 (max (x : Int) (y : Int)))).heap[b7]? = some (.cells (cArr (mixV max v v' (i + 1))) 108 (0, 0)) ∧ (wr.drew.setCell ⟨b7, i, none⟩ (.int .i64 (max (x : Int) (y : Int)))).heap[b8]? = some (.cells (cArr v') 108 (0, 0))) := by
        refine ⟨HB.out.drew.setCell l7 _, ?_, ?_⟩
        · rw [← HMX.out, ← HST.out]
          exact hsc (w := wr.drew) E7.out
        · exact (Below.heap_setCell wr.drew _ _ _ (Ne.symm hne)).trans E8.out
      go_wp2_with fail
      go_roundg (5 - (i + 1))
      case measure => omega
      case rel => exact ⟨i + 1, by omega, Nat.le_refl _, by go_num, HX.out.1, HX.out.2.1, HX.out.2.2⟩
    · obtain rfl : i = 5 := by omega
      have GW : Hid (Gr w wr) := Below.trans G5.out (Below.mono HB.out (by rw [hg0]; omega))
      have k0 := (HB.out.block _ l0).trans d0.out
      have k1 := (HB.out.block _ l1).trans d1.out
      have k4 := (HB.out.block _ l4).trans d4.out
      have m0 := (Array.getElem?_eq_some_iff.1 k0).1
      have m1 := (Array.getElem?_eq_some_iff.1 k1).1
      have m4 := (Array.getElem?_eq_some_iff.1 k4).1
      have m7 := (Array.getElem?_eq_some_iff.1 e7).1
      have hR3 : Hid (∀ W, Gr wr W → RdC 2 W (.slice ma N2 mc) m.length (flat (pairs m))) := fun W g => by
        have := (R3.out.gr (GW.out.trans g))
        rw [HN2.out] at this ⊢
        exact this
      have hR3' : Hid (∀ W, Gr wr W → RdC 2 W (.slice ma' N2' mc') m'.length (flat (pairs m'))) := fun W g => by
        have := (R3'.out.gr (GW.out.trans g))
        rw [HN2'.out] at this ⊢
        exact this
      clear e8 E8 D7 D8 HLv HLv' hb
      generalize hV : mixV max v v' 5 = V at *
      go_wp2_with fail
      refine jn10_reg _ (fun _ _ _ _ _ h => h) _ wr g0 (g0 + 1) (g0 + 1 + 1) b7 U U' ma ma' N2 mc N2' mc' (cArr V) rfl rfl rfl rfl rfl ⟨⟨k0, k1⟩, e7⟩ m0 m1 m7 rfl k4 (by omega) (by omega) (by omega)
        (fun u W W' => W'.ownsRow W.heap.size 26 2 u (m ++ m').length (flat (pairs (m ++ m')))) (fun a1 n1 c1 a2 n2 c2 r W'' => frmK wr.heap.size W'' (.returned (.tuple #[.agg #[.slice a1 n1 c1, .slice a2 n2 c2], .int .i64 r])) (orD (memB v m) (memB v' m')))
        (fun W b g hb => concat_two hb (hR3.out W g) (hR3'.out W g) (by omega))
        (fun W W' u g g' f => build_then (orD (memB v m) (memB v' m')) (by rw [← hV]; exact join_eq) HML.out (fun d hd => (List.mem_append.1 hd).elim (HIN.out d) (HIN'.out d)) (by rw [List.length_append]; omega) g g' f) (fun W b39 u a1 n1 c1 a2 n2 c2 r g f => ?_)
      simp only [Act.put, List.setIfInBounds_toArray, List.set_cons_zero, List.set_cons_succ]
      have k4' := (Below.block g _ m4).trans k4
      have k5 := setRow_heap W (g0 + 1 + 1) _ #[.slice a1 n1 c1, .slice a2 n2 c2] _ _ k4'
      have GF : Hid (Gr w (W.setRow (g0 + 1 + 1) #[.slice a1 n1 c1, .slice a2 n2 c2])) := below_setRow (GW.out.trans g) (by omega) _
      have HF := Lib.hid ((f.setRow m4 #[.slice a1 n1 c1, .slice a2 n2 c2]).less (base' := w.heap.size) GW.out.le)
      generalize W.setRow (g0 + 1 + 1) #[.slice a1 n1 c1, .slice a2 n2 c2] = w9 at *
      go_wp2_with fail
      refine bodyPost_ret (res_know Try.results22 _ _ (g0 + 1 + 1) _ _ _ rfl rfl (kc0 k5) (kc1 k5)) rfl ⟨HF.out, GF.out⟩

set_option maxHeartbeats 2000000 in
set_option maxRecDepth 100000 in
theorem meet_ok (k k' : Value) (v v' : List Nat) (m m' : List (Nat × Nat)) (w : World) (hk : KnR w k (ints v) (pairs m)) (hk' : KnR w k' (ints v') (pairs m')) (ho : OkV v m) (ho' : OkV v' m') (hl : m.length ≤ 60) (hl' : m'.length ≤ 60) :
    Calls Try.prog 27 #[k, k'] w fun e w' => frmK w.heap.size w' e (andD (memB v m) (memB v' m')) ∧ Gr w w' := by
  have H1 : Hid (∀ W, Gr w W → Calls Try.prog 60 #[k, k'] W fun e w' => e = .returned (.int .i64 0) ∧ Gr W w') := fun W g => by
    have := kcheckBoth k k' _ _ _ _ W (hk.gr g) (hk'.gr g)
    rw [ho.chk hl, ho'.chk hl'] at this
    simpa using this
  have HC : Hid (∀ W, Gr w W → Calls Try.prog 61 #[k] W fun e w' => e = .returned (.agg (cArr v)) ∧ Gr W w') := fun W g => countsOf_any k v _ W (hk.gr g) ho.len
  have HC' : Hid (∀ W, Gr w W → Calls Try.prog 61 #[k'] W fun e w' => e = .returned (.agg (cArr v')) ∧ Gr W w') := fun W g => countsOf_any k' v' _ W (hk'.gr g) ho'.len
  have HQ : Hid (∀ lv W, Rd2 W lv (pairs m) → Gr w W → Calls Try.prog 62 #[lv, k'] W fun e W' => ∃ p1 p2 p3, e = .returned (.slice p1 p2 p3) ∧ Gr W W' ∧ ComAt W.heap.size (comL m v' m') p1 p2 p3 W') := fun lv W h g => common_any lv m k' v' m' W h (by omega) ho.ins (hk'.gr g) ho' hl'
  have HQ' : Hid (∀ lv W, Rd2 W lv (pairs m') → Gr w W → Calls Try.prog 62 #[lv, k] W fun e W' => ∃ p1 p2 p3, e = .returned (.slice p1 p2 p3) ∧ Gr W W' ∧ ComAt W.heap.size (comL m' v m) p1 p2 p3 W') := fun lv W h g => common_any lv m' k v m W h (by omega) ho'.ins (hk.gr g) ho hl
  obtain ⟨vv, mv, rfl, r1, r2, r3⟩ := hk
  obtain ⟨vv', mv', rfl, r1', r2', r3'⟩ := hk'
  obtain ⟨va, vc, rfl, -⟩ := id r1
  obtain ⟨ma, mc, rfl, -⟩ := id r2
  obtain ⟨va', vc', rfl, -⟩ := id r1'
  obtain ⟨ma', mc', rfl, -⟩ := id r2'
  have hpl := pairs_len m
  have hpl' := pairs_len m'
  have R3 := Lib.hid r3
  have R3' := Lib.hid r3'
  have R2 := Lib.hid r2
  have R2' := Lib.hid r2'
  have HLv := Lib.hid (fun s => cv_le ho.le s)
  have HLv' := Lib.hid (fun s => cv_le ho'.le s)
  have HML := Lib.hid (mix_le (f := min) (fun a b => by omega) ho.le ho'.le)
  have HIN := Lib.hid ho.ins
  have HIN' := Lib.hid ho'.ins
  generalize hN1 : (ints v).length = N1 at *
  generalize hN2 : (pairs m).length = N2 at *
  generalize hN1' : (ints v').length = N1' at *
  generalize hN2' : (pairs m').length = N2' at *
  have HN2 := Lib.hid hpl
  have HN2' := Lib.hid hpl'
  clear r1 r2 r3 r1' r2' r3' ho ho' hN1 hN2 hN1' hN2' hpl hpl'
  generalize hU : (Value.slice va N1 vc) = U at *
  generalize hU' : (Value.slice va' N1' vc') = U' at *
  have HU := Lib.hid hU
  have HU' := Lib.hid hU'
  clear hU hU'
  have G3 := Lib.hid ((((Gr.refl w).alloc (.cells #[U, .slice ma N2 mc] 35)).alloc (.cells #[U', .slice ma' N2' mc'] 35)).alloc (.cells #[.slice none 0 0, .slice none 0 0] 35))
  have B0 : Hid ((((w.alloc (.cells #[U, .slice ma N2 mc] 35)).alloc (.cells #[U', .slice ma' N2' mc'] 35)).alloc (.cells #[.slice none 0 0, .slice none 0 0] 35)).heap[w.heap.size]? = some (.cells #[U, .slice ma N2 mc] 35 (0, 0))) := (al_old _ _ _ (by simp; omega)).trans ((al_old _ _ _ (by simp)).trans (al_new _ _ _ rfl))
  have B1 : Hid ((((w.alloc (.cells #[U, .slice ma N2 mc] 35)).alloc (.cells #[U', .slice ma' N2' mc'] 35)).alloc (.cells #[.slice none 0 0, .slice none 0 0] 35)).heap[w.heap.size + 1]? = some (.cells #[U', .slice ma' N2' mc'] 35 (0, 0))) := (al_old _ _ _ (by simp)).trans (al_new _ _ _ (by simp))
  have B4 : Hid ((((w.alloc (.cells #[U, .slice ma N2 mc] 35)).alloc (.cells #[U', .slice ma' N2' mc'] 35)).alloc (.cells #[.slice none 0 0, .slice none 0 0] 35)).heap[w.heap.size + 1 + 1]? = some (.cells #[.slice none 0 0, .slice none 0 0] 35 (0, 0))) := al_new _ _ _ (by simp)
  go_enter Try.func27, Try.ntmps27
  go_wp2_with (go_at_call 60; refine (H1.out _ G3.out).mono ?_; rintro e w4 ⟨rfl, g4⟩; have G4 := Lib.hid (G3.out.trans g4); have b0 := (Below.block g4 _ (Array.getElem?_eq_some_iff.1 B0.out).1).trans B0.out; have b1 := (Below.block g4 _ (Array.getElem?_eq_some_iff.1 B1.out).1).trans B1.out; have b4 := (Below.block g4 _ (Array.getElem?_eq_some_iff.1 B4.out).1).trans B4.out; clear g4 B0 B1 B4 G3 H1)
  generalize hg0 : w.heap.size = g0 at *
  have l0 := (Array.getElem?_eq_some_iff.1 b0).1
  have l1 := (Array.getElem?_eq_some_iff.1 b1).1
  have l4 := (Array.getElem?_eq_some_iff.1 b4).1
  refine me4_reg _ (fun _ _ _ _ _ h => h) _ w4 g0 (g0 + 1) U (.slice ma N2 mc) U' (.slice ma' N2' mc') (cArr v) (cArr v') rfl rfl rfl ⟨b0, b1⟩ l0 l1 rfl (cArr_one v) rfl (cArr_one v') (fun W g => HC.out W (G4.out.trans g)) (fun W g => HC'.out W (G4.out.trans g)) (fun w5 b7 b8 g5 l7 l8 hne e7 e8 => ?_)
  simp only [Act.put, List.setIfInBounds_toArray, List.set_cons_zero, List.set_cons_succ]
  have G5 := Lib.hid (G4.out.trans g5)
  have d0 := Lib.hid ((Below.block g5 _ l0).trans b0)
  have d1 := Lib.hid ((Below.block g5 _ l1).trans b1)
  have d4 := Lib.hid ((Below.block g5 _ l4).trans b4)
  have D7 : Hid (w5.heap[b7]? = some (.cells (cArr (mixV min v v' 0)) 108 (0, 0))) := by rw [mixV_zero]; exact e7
  have D8 := Lib.hid e8
  have hL5 : Hid (w4.heap.size ≤ w5.heap.size) := g5.le
  clear g5 b0 b1 b4 e7 e8 HC HC'
  go_wp2_with fail
  go_loopg [21] 5 (fun gh ix wr => ∃ i : Nat, i ≤ 5 ∧ 5 - i ≤ gh ∧ ix = .int .i64 (i : Int) ∧ Below w4.heap.size w5 wr ∧ wr.heap[b7]? = some (.cells (cArr (mixV min v v' i)) 108 (0, 0)) ∧ wr.heap[b8]? = some (.cells (cArr v') 108 (0, 0)))
  case atStart => exact ⟨0, by omega, by omega, rfl, Below.refl _ _, D7.out, D8.out⟩
  case round =>
    obtain ⟨i, hi, hgh, rfl, hb, e7, e8⟩ := hrel
    have HB := Lib.hid hb
    have E7 := Lib.hid e7
    have E8 := Lib.hid e8
    by_cases hi5 : i < 5
    · have c7 : wr.cell? ⟨b7, i, none⟩ = some (.int .i64 (cv v i : Nat)) := by
        have := cell_cArr e7 hi5
        rw [mixV_cv min v v' i i hi5, if_neg (by omega)] at this
        exact this
      have c8 := cell_cArr e8 hi5
      have f7 : wr.frozen? ⟨b7, i, none⟩ = false := by simp [World.frozen?, e7]
      have HST := Lib.hid (mixV_step min v v' i hi5)
      have hiI : (i : Int) < 5 := by omega
      have q1 : (cv v i : Int) ≤ 1000 := by have := HLv.out i; omega
      have q2 : (cv v' i : Int) ≤ 1000 := by have := HLv'.out i; omega
      have hmx : ((min (cv v i) (cv v' i) : Nat) : Int) = min ((cv v i : Nat) : Int) ((cv v' i : Nat) : Int) := by omega
      have HMX := Lib.hid hmx
      clear e7 e8 hb hmx
      generalize cv v i = x at *
      generalize cv v' i = y at *
      go_wp2_with fail
      go_still_tail 9, (by kernel_rfl)
      repeat still_step
      change wpList _ _ _ _ _ wr.drew
      have HX : Hid (Below w4.heap.size w5 ((wr.drew.setCell ⟨b7, i, none⟩ (.int .i64 (min (x : Int) (y : Int))))) ∧ (wr.drew.setCell ⟨b7, i, none⟩ (.int .i64 (min (x : Int) (y : Int)))).heap[b7]? = some (.cells (cArr (mixV min v v' (i + 1))) 108 (0, 0)) ∧ (wr.drew.setCell ⟨b7, i, none⟩ (.int .i64 (min (x : Int) (y : Int)))).heap[b8]? = some (.cells (cArr v') 108 (0, 0))) := by
        refine ⟨HB.out.drew.setCell l7 _, ?_, ?_⟩
        · rw [← HMX.out, ← HST.out]
          exact hsc (w := wr.drew) E7.out
        · exact (Below.heap_setCell wr.drew _ _ _ (Ne.symm hne)).trans E8.out
      go_wp2_with fail
      go_roundg (5 - (i + 1))
      case measure => omega
      case rel => exact ⟨i + 1, by omega, Nat.le_refl _, by go_num, HX.out.1, HX.out.2.1, HX.out.2.2⟩
    · obtain rfl : i = 5 := by omega
      have GW : Hid (Gr w wr) := Below.trans G5.out (Below.mono HB.out (by rw [hg0]; omega))
      have k0 := (HB.out.block _ l0).trans d0.out
      have k1 := (HB.out.block _ l1).trans d1.out
      have k4 := (HB.out.block _ l4).trans d4.out
      have m0 := (Array.getElem?_eq_some_iff.1 k0).1
      have m1 := (Array.getElem?_eq_some_iff.1 k1).1
      have m4 := (Array.getElem?_eq_some_iff.1 k4).1
      have m7 := (Array.getElem?_eq_some_iff.1 e7).1
      have hR3 : Hid (∀ W, Gr wr W → RdC 2 W (.slice ma N2 mc) m.length (flat (pairs m))) := fun W g => by
        have := (R3.out.gr (GW.out.trans g))
        rw [HN2.out] at this ⊢
        exact this
      have hR3' : Hid (∀ W, Gr wr W → RdC 2 W (.slice ma' N2' mc') m'.length (flat (pairs m'))) := fun W g => by
        have := (R3'.out.gr (GW.out.trans g))
        rw [HN2'.out] at this ⊢
        exact this
      clear e8 E8 D7 D8 HLv HLv' hb
      generalize hV : mixV min v v' 5 = V at *
      go_wp2_with fail
      refine me10_reg _ (fun _ _ _ _ _ h => h) _ wr g0 (g0 + 1) (g0 + 1 + 1) b7 U U' ma ma' N2 mc N2' mc' (cArr V) rfl rfl rfl rfl rfl ⟨⟨k0, k1⟩, e7⟩ m0 m1 m7 rfl k4 (by omega) (by omega) (by omega)
        (fun p1 p2 p3 W => ∃ B, ComAt B (comL m v' m') p1 p2 p3 W) (fun p1 p2 p3 W => ∃ B, ComAt B (comL m' v m) p1 p2 p3 W)
        (fun u W W' => W'.ownsRow W.heap.size 26 2 u (comL m v' m' ++ comL m' v m).length (flat (pairs (comL m v' m' ++ comL m' v m)))) (fun a1 n1 c1 a2 n2 c2 r W'' => frmK wr.heap.size W'' (.returned (.tuple #[.agg #[.slice a1 n1 c1, .slice a2 n2 c2], .int .i64 r])) (andD (memB v m) (memB v' m')))
        (fun W g => (HQ.out _ W (R2.out.gr (GW.out.trans g)) (GW.out.trans g)).mono fun e W' ⟨p1, p2, p3, h1, h2, h3⟩ => ⟨p1, p2, p3, h1, h2, _, h3⟩)
        (fun W g => (HQ'.out _ W (R2'.out.gr (GW.out.trans g)) (GW.out.trans g)).mono fun e W' ⟨p1, p2, p3, h1, h2, h3⟩ => ⟨p1, p2, p3, h1, h2, _, h3⟩)
        (fun W1 W2 W b p1 p2 p3 q1 q2 q3 g1 f1 g12 f2 g2 hb => by
          obtain ⟨B, rfl, o1⟩ := f1
          obtain ⟨B', rfl, o2⟩ := f2
          have z1 := List.length_filter_le (fun d => memB v' m' d.1 d.2) m
          have z2 := List.length_filter_le (fun d => memB v m d.1 d.2) m'
          exact concat_two hb (RdC.own (kown_gr o1 (g12.trans g2)) (flat_one _)) (RdC.own (kown_gr o2 g2) (flat_one _)) (by unfold comL; omega))
        (fun W W' u g g' f => build_then (andD (memB v m) (memB v' m')) (by rw [← hV]; exact meet_eq) HML.out (fun d hd => (List.mem_append.1 hd).elim (fun q => HIN.out d (List.mem_filter.1 q).1) (fun q => HIN'.out d (List.mem_filter.1 q).1)) (by
          have z1 := List.length_filter_le (fun d => memB v' m' d.1 d.2) m
          have z2 := List.length_filter_le (fun d => memB v m d.1 d.2) m'
          rw [List.length_append]; first | omega | (unfold comL; omega)) g g' f) (fun W b43 p1 p2 p3 q1 q2 q3 u a1 n1 c1 a2 n2 c2 r g f => ?_)
      simp only [Act.put, List.setIfInBounds_toArray, List.set_cons_zero, List.set_cons_succ]
      have k4' := (Below.block g _ m4).trans k4
      have k5 := setRow_heap W (g0 + 1 + 1) _ #[.slice a1 n1 c1, .slice a2 n2 c2] _ _ k4'
      have GF : Hid (Gr w (W.setRow (g0 + 1 + 1) #[.slice a1 n1 c1, .slice a2 n2 c2])) := below_setRow (GW.out.trans g) (by omega) _
      have HF := Lib.hid ((f.setRow m4 #[.slice a1 n1 c1, .slice a2 n2 c2]).less (base' := w.heap.size) GW.out.le)
      generalize W.setRow (g0 + 1 + 1) #[.slice a1 n1 c1, .slice a2 n2 c2] = w9 at *
      go_wp2_with fail
      refine bodyPost_ret (res_know Try.results27 _ _ (g0 + 1 + 1) _ _ _ rfl rfl (kc0 k5) (kc1 k5)) rfl ⟨HF.out, GF.out⟩
end Go.Proofs.Ytghjfakellaecaa
