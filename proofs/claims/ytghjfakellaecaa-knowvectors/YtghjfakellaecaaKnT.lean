/- know.Join, Meet, Within, Add, Count, Has: errors; Within, Add, Count, Has of sets in their form. -/
import Derived.Test.YtghjfakellaecaaKnN
set_option linter.unusedVariables false
set_option linter.unusedSimpArgs false
namespace Rm
open Go Go.RowKit
/-- the first error of two -/
def chk2K (V V' : List Int) (M M' : List (Int × Int)) : Int := if chkK V M ≠ 0 then chkK V M else chkK V' M'
def leV (v v' : List Nat) : Bool := decide (cv v 0 ≤ cv v' 0) && decide (cv v 1 ≤ cv v' 1) && decide (cv v 2 ≤ cv v' 2) && decide (cv v 3 ≤ cv v' 3) && decide (cv v 4 ≤ cv v' 4)
theorem leV_iff (v v' : List Nat) : leV v v' = true ↔ ∀ s, s < 5 → cv v s ≤ cv v' s := by
  simp only [leV, Bool.and_eq_true, decide_eq_true_eq]
  constructor
  · rintro ⟨⟨⟨⟨h0, h1⟩, h2⟩, h3⟩, h4⟩ s hs
    match s, hs with
    | 0, _ => exact h0
    | 1, _ => exact h1
    | 2, _ => exact h2
    | 3, _ => exact h3
    | 4, _ => exact h4
  · intro h; exact ⟨⟨⟨⟨h 0 (by omega), h 1 (by omega)⟩, h 2 (by omega)⟩, h 3 (by omega)⟩, h 4 (by omega)⟩
/-- is one set within another? -/
def withB (v v' : List Nat) (m m' : List (Nat × Nat)) : Bool := leV v v' && decide ((comL m v' m').length = m.length)
theorem withB_iff {v v' : List Nat} {m m' : List (Nat × Nat)} (h : OkV v m) (h' : OkV v' m') : withB v v' m m' = true ↔ subD (memB v m) (memB v' m') := by
  unfold withB
  rw [Bool.and_eq_true, leV_iff, decide_eq_true_eq]
  constructor
  · rintro ⟨h1, h2⟩ s c hr hm
    rcases (memB_iff ..).1 hm with q | q
    · exact (memB_iff ..).2 (.inl ⟨q.1, Nat.le_trans q.2 (h1 s hr.1)⟩)
    · have h3 := List.length_filter_eq_length_iff.1 h2
      exact h3 _ q
  · intro hs
    refine ⟨fun s h5 => ?_, ?_⟩
    · rcases Nat.lt_or_ge (cv v' s) (cv v s) with q | q
      · exfalso
        have hle := cv_le h.le s
        have h1 := hs s (cv v' s + 1) ⟨h5, by omega, by omega⟩ ((memB_iff ..).2 (.inl ⟨by omega, by omega⟩))
        rcases (memB_iff ..).1 h1 with k | k
        · omega
        · have := (h'.dots _ k).2.2
          simp only at this
          omega
      · exact q
    · refine List.length_filter_eq_length_iff.2 fun d hd => ?_
      exact hs d.1 d.2 (h.ins d hd) ((memB_iff ..).2 (.inr hd))
theorem add_eq {v : List Nat} {m : List (Nat × Nat)} {a b : Nat} : EqD (upD v (m ++ [(a, b)])) (addD (memB v m) a b) := by
  intro s c _
  rw [Bool.eq_iff_iff]
  unfold addD
  rw [Bool.or_eq_true, memB_iff]
  simp only [upD, Bool.or_eq_true, decide_eq_true_eq, List.contains_iff_mem, List.mem_append, List.mem_singleton, Prod.mk.injEq]
  constructor
  · rintro (q | q | q)
    · exact .inl (.inl q)
    · exact .inl (.inr q)
    · exact .inr q
  · rintro ((q | q) | q)
    · exact .inl q
    · exact .inr (.inl q)
    · exact .inr (.inr q)
end Rm
namespace Go.Proofs.Ytghjfakellaecaa
open Go.RowKit Rm
def noK : Value := .agg #[.slice none 0 0, .slice none 0 0]

set_option maxHeartbeats 1000000 in
set_option maxRecDepth 100000 in
theorem join_bad (k k' : Value) (V V' : List Int) (M M' : List (Int × Int)) (w : World) (hk : KnR w k V M) (hk' : KnR w k' V' M') (hE : chk2K V V' M M' ≠ 0) :
    Calls Try.prog 22 #[k, k'] w fun e w' => e = .returned (.tuple #[noK, .int .i64 (chk2K V V' M M')]) ∧ Gr w w' := by
  have H1 : Hid (∀ W, Gr w W → Calls Try.prog 60 #[k, k'] W fun e w' => e = .returned (.int .i64 (chk2K V V' M M')) ∧ Gr W w') := fun W g => kcheckBoth k k' _ _ _ _ W (hk.gr g) (hk'.gr g)
  obtain ⟨vv, mv, rfl, r1, r2, r3⟩ := hk
  obtain ⟨vv', mv', rfl, r1', r2', r3'⟩ := hk'
  clear r1 r2 r3 r1' r2' r3'
  generalize chk2K V V' M M' = E at *
  have G3 := Lib.hid ((((Gr.refl w).alloc (.cells #[vv, mv] 35)).alloc (.cells #[vv', mv'] 35)).alloc (.cells #[.slice none 0 0, .slice none 0 0] 35))
  have B4 : Hid ((((w.alloc (.cells #[vv, mv] 35)).alloc (.cells #[vv', mv'] 35)).alloc (.cells #[.slice none 0 0, .slice none 0 0] 35)).heap[w.heap.size + 1 + 1]? = some (.cells #[.slice none 0 0, .slice none 0 0] 35 (0, 0))) := al_new _ _ _ (by simp)
  go_enter Try.func22, Try.ntmps22
  go_wp2_with (go_at_call 60; refine (H1.out _ G3.out).mono ?_; rintro e w4 ⟨rfl, g4⟩; have G4 := Lib.hid (G3.out.trans g4); have b4 := (Below.block g4 _ (Array.getElem?_eq_some_iff.1 B4.out).1).trans B4.out; have c0 := kc0 b4; have c1 := kc1 b4; have f0 : w4.frozen? ⟨w.heap.size + 1 + 1, 0, none⟩ = false := frozen_of_row _ _ 0 _ _ b4; have f1 : w4.frozen? ⟨w.heap.size + 1 + 1, 1, none⟩ = false := frozen_of_row _ _ 1 _ _ b4; clear g4 B4 G3 H1 b4)
  obtain ⟨p0, p1⟩ := put2 c0 c1 (.slice none 0 0) (.slice none 0 0)
  have HW := Lib.hid ((G4.out.setCell (p := ⟨w.heap.size + 1 + 1, 0, none⟩) (show w.heap.size ≤ w.heap.size + 1 + 1 by omega) (.slice none 0 0)).setCell (p := ⟨w.heap.size + 1 + 1, 1, none⟩) (show w.heap.size ≤ w.heap.size + 1 + 1 by omega) (.slice none 0 0))
  generalize (w4.setCell ⟨w.heap.size + 1 + 1, 0, none⟩ (.slice none 0 0)).setCell ⟨w.heap.size + 1 + 1, 1, none⟩ (.slice none 0 0) = w7 at *
  refine bodyPost_ret (res_know Try.results22 _ _ (w.heap.size + 1 + 1) _ _ _ rfl rfl p0 p1) rfl ⟨rfl, HW.out⟩

set_option maxHeartbeats 1000000 in
set_option maxRecDepth 100000 in
theorem meet_bad (k k' : Value) (V V' : List Int) (M M' : List (Int × Int)) (w : World) (hk : KnR w k V M) (hk' : KnR w k' V' M') (hE : chk2K V V' M M' ≠ 0) :
    Calls Try.prog 27 #[k, k'] w fun e w' => e = .returned (.tuple #[noK, .int .i64 (chk2K V V' M M')]) ∧ Gr w w' := by
  have H1 : Hid (∀ W, Gr w W → Calls Try.prog 60 #[k, k'] W fun e w' => e = .returned (.int .i64 (chk2K V V' M M')) ∧ Gr W w') := fun W g => kcheckBoth k k' _ _ _ _ W (hk.gr g) (hk'.gr g)
  obtain ⟨vv, mv, rfl, r1, r2, r3⟩ := hk
  obtain ⟨vv', mv', rfl, r1', r2', r3'⟩ := hk'
  clear r1 r2 r3 r1' r2' r3'
  generalize chk2K V V' M M' = E at *
  have G3 := Lib.hid ((((Gr.refl w).alloc (.cells #[vv, mv] 35)).alloc (.cells #[vv', mv'] 35)).alloc (.cells #[.slice none 0 0, .slice none 0 0] 35))
  have B4 : Hid ((((w.alloc (.cells #[vv, mv] 35)).alloc (.cells #[vv', mv'] 35)).alloc (.cells #[.slice none 0 0, .slice none 0 0] 35)).heap[w.heap.size + 1 + 1]? = some (.cells #[.slice none 0 0, .slice none 0 0] 35 (0, 0))) := al_new _ _ _ (by simp)
  go_enter Try.func27, Try.ntmps27
  go_wp2_with (go_at_call 60; refine (H1.out _ G3.out).mono ?_; rintro e w4 ⟨rfl, g4⟩; have G4 := Lib.hid (G3.out.trans g4); have b4 := (Below.block g4 _ (Array.getElem?_eq_some_iff.1 B4.out).1).trans B4.out; have c0 := kc0 b4; have c1 := kc1 b4; have f0 : w4.frozen? ⟨w.heap.size + 1 + 1, 0, none⟩ = false := frozen_of_row _ _ 0 _ _ b4; have f1 : w4.frozen? ⟨w.heap.size + 1 + 1, 1, none⟩ = false := frozen_of_row _ _ 1 _ _ b4; clear g4 B4 G3 H1 b4)
  obtain ⟨p0, p1⟩ := put2 c0 c1 (.slice none 0 0) (.slice none 0 0)
  have HW := Lib.hid ((G4.out.setCell (p := ⟨w.heap.size + 1 + 1, 0, none⟩) (show w.heap.size ≤ w.heap.size + 1 + 1 by omega) (.slice none 0 0)).setCell (p := ⟨w.heap.size + 1 + 1, 1, none⟩) (show w.heap.size ≤ w.heap.size + 1 + 1 by omega) (.slice none 0 0))
  generalize (w4.setCell ⟨w.heap.size + 1 + 1, 0, none⟩ (.slice none 0 0)).setCell ⟨w.heap.size + 1 + 1, 1, none⟩ (.slice none 0 0) = w7 at *
  refine bodyPost_ret (res_know Try.results27 _ _ (w.heap.size + 1 + 1) _ _ _ rfl rfl p0 p1) rfl ⟨rfl, HW.out⟩

set_option maxHeartbeats 1000000 in
set_option maxRecDepth 100000 in
theorem within_bad (k k' : Value) (V V' : List Int) (M M' : List (Int × Int)) (w : World) (hk : KnR w k V M) (hk' : KnR w k' V' M') (hE : chk2K V V' M M' ≠ 0) :
    Calls Try.prog 21 #[k, k'] w fun e w' => e = .returned (.tuple #[.bool false, .int .i64 (chk2K V V' M M')]) ∧ Gr w w' := by
  have H1 : Hid (∀ W, Gr w W → Calls Try.prog 60 #[k, k'] W fun e w' => e = .returned (.int .i64 (chk2K V V' M M')) ∧ Gr W w') := fun W g => kcheckBoth k k' _ _ _ _ W (hk.gr g) (hk'.gr g)
  obtain ⟨vv, mv, rfl, r1, r2, r3⟩ := hk
  obtain ⟨vv', mv', rfl, r1', r2', r3'⟩ := hk'
  clear r1 r2 r3 r1' r2' r3'
  generalize chk2K V V' M M' = E at *
  have G3 := Lib.hid (((Gr.refl w).alloc (.cells #[vv, mv] 35)).alloc (.cells #[vv', mv'] 35))
  go_enter Try.func21, Try.ntmps21
  go_wp2_with (go_at_call 60; refine (H1.out _ G3.out).mono ?_; rintro e w4 ⟨rfl, g4⟩)
  go_ret2
  exact ⟨rfl, G3.out.trans g4⟩

set_option maxHeartbeats 2000000 in
set_option maxRecDepth 100000 in
theorem within_ok (k k' : Value) (v v' : List Nat) (m m' : List (Nat × Nat)) (w : World) (hk : KnR w k (ints v) (pairs m)) (hk' : KnR w k' (ints v') (pairs m')) (ho : OkV v m) (ho' : OkV v' m') (hl : m.length ≤ 60) (hl' : m'.length ≤ 60) :
    Calls Try.prog 21 #[k, k'] w fun e w' => e = .returned (.tuple #[.bool (withB v v' m m'), .int .i64 0]) ∧ Gr w w' := by
  have H1 : Hid (∀ W, Gr w W → Calls Try.prog 60 #[k, k'] W fun e w' => e = .returned (.int .i64 0) ∧ Gr W w') := fun W g => by
    have := kcheckBoth k k' _ _ _ _ W (hk.gr g) (hk'.gr g)
    rw [ho.chk hl, ho'.chk hl'] at this
    simpa using this
  have HC : Hid (∀ W, Gr w W → Calls Try.prog 61 #[k] W fun e w' => e = .returned (.agg (cArr v)) ∧ Gr W w') := fun W g => countsOf_any k v _ W (hk.gr g) ho.len
  have HC' : Hid (∀ W, Gr w W → Calls Try.prog 61 #[k'] W fun e w' => e = .returned (.agg (cArr v')) ∧ Gr W w') := fun W g => countsOf_any k' v' _ W (hk'.gr g) ho'.len
  have HQ : Hid (∀ lv W, Rd2 W lv (pairs m) → Gr w W → Calls Try.prog 62 #[lv, k'] W fun e W' => ∃ p1 p2 p3, e = .returned (.slice p1 p2 p3) ∧ Gr W W' ∧ ComAt W.heap.size (comL m v' m') p1 p2 p3 W') := fun lv W h g => common_any lv m k' v' m' W h (by omega) ho.ins (hk'.gr g) ho' hl'
  obtain ⟨vv, mv, rfl, r1, r2, r3⟩ := hk
  obtain ⟨vv', mv', rfl, r1', r2', r3'⟩ := hk'
  obtain ⟨va, vc, rfl, -⟩ := id r1
  obtain ⟨ma, mc, rfl, -⟩ := id r2
  obtain ⟨va', vc', rfl, -⟩ := id r1'
  obtain ⟨ma', mc', rfl, -⟩ := id r2'
  have R2 := Lib.hid r2
  have HLv := Lib.hid (fun s => cv_le ho.le s)
  have HLv' := Lib.hid (fun s => cv_le ho'.le s)
  have hpl := pairs_len m
  generalize hN1 : (ints v).length = N1 at *
  generalize hN2 : (pairs m).length = N2 at *
  generalize hN1' : (ints v').length = N1' at *
  generalize hN2' : (pairs m').length = N2' at *
  have HN2 := Lib.hid hpl
  clear r1 r2 r3 r1' r2' r3' ho ho' hN1 hN2 hN1' hN2' hpl
  generalize hU : (Value.slice va N1 vc) = U at *
  generalize hU' : (Value.slice va' N1' vc') = U' at *
  clear hU hU'
  have G3 := Lib.hid (((Gr.refl w).alloc (.cells #[U, .slice ma N2 mc] 35)).alloc (.cells #[U', .slice ma' N2' mc'] 35))
  have B0 : Hid (((w.alloc (.cells #[U, .slice ma N2 mc] 35)).alloc (.cells #[U', .slice ma' N2' mc'] 35)).heap[w.heap.size]? = some (.cells #[U, .slice ma N2 mc] 35 (0, 0))) := (al_old _ _ _ (by simp)).trans (al_new _ _ _ rfl)
  have B1 : Hid (((w.alloc (.cells #[U, .slice ma N2 mc] 35)).alloc (.cells #[U', .slice ma' N2' mc'] 35)).heap[w.heap.size + 1]? = some (.cells #[U', .slice ma' N2' mc'] 35 (0, 0))) := al_new _ _ _ (by simp)
  go_enter Try.func21, Try.ntmps21
  go_wp2_with (go_at_call 60; refine (H1.out _ G3.out).mono ?_; rintro e w4 ⟨rfl, g4⟩; have G4 := Lib.hid (G3.out.trans g4); have b0 := (Below.block g4 _ (Array.getElem?_eq_some_iff.1 B0.out).1).trans B0.out; have b1 := (Below.block g4 _ (Array.getElem?_eq_some_iff.1 B1.out).1).trans B1.out; clear g4 B0 B1 G3 H1)
  generalize hg0 : w.heap.size = g0 at *
  have l0 := (Array.getElem?_eq_some_iff.1 b0).1
  have l1 := (Array.getElem?_eq_some_iff.1 b1).1
  refine wi4_reg _ (fun _ _ _ _ _ h => h) _ w4 g0 (g0 + 1) U (.slice ma N2 mc) U' (.slice ma' N2' mc') (cArr v) (cArr v') rfl rfl rfl ⟨b0, b1⟩ l0 l1 rfl (cArr_one v) rfl (cArr_one v') (fun W g => HC.out W (G4.out.trans g)) (fun W g => HC'.out W (G4.out.trans g)) (fun w5 b7 b8 g5 l7 l8 hne e7 e8 => ?_)
  simp only [Act.put, List.setIfInBounds_toArray, List.set_cons_zero, List.set_cons_succ]
  have G5 := Lib.hid (G4.out.trans g5)
  have d0 := Lib.hid ((Below.block g5 _ l0).trans b0)
  have d1 := Lib.hid ((Below.block g5 _ l1).trans b1)
  have D7 := Lib.hid e7
  have D8 := Lib.hid e8
  clear g5 b0 b1 e7 e8 HC HC'
  go_wp2_with fail
  go_loopg [20] 5 (fun gh ix wr => ∃ i : Nat, i ≤ 5 ∧ 5 - i ≤ gh ∧ ix = .int .i64 (i : Int) ∧ (∃ q, wr = w5.drewN q) ∧ ∀ s, s < i → cv v s ≤ cv v' s)
  case atStart => exact ⟨0, by omega, by omega, rfl, ⟨0, rfl⟩, fun s hs => by omega⟩
  case round =>
    obtain ⟨i, hi, hgh, rfl, ⟨q, hwr⟩, hall⟩ := hrel
    have HW := Lib.hid hwr
    have HA := Lib.hid hall
    have e7 : wr.heap[b7]? = some (.cells (cArr v) 108 (0, 0)) := by rw [hwr]; exact D7.out
    have e8 : wr.heap[b8]? = some (.cells (cArr v') 108 (0, 0)) := by rw [hwr]; exact D8.out
    have GW : Hid (Gr w wr) := by rw [hwr]; exact G5.out.drewN q
    clear hwr hall
    by_cases hi5 : i < 5
    · have c7 := cell_cArr e7 hi5
      have c8 := cell_cArr e8 hi5
      have hiI : (i : Int) < 5 := by omega
      have q1 : (cv v i : Int) ≤ 1000 := by have := HLv.out i; omega
      have q2 : (cv v' i : Int) ≤ 1000 := by have := HLv'.out i; omega
      have HI : Hid (¬ cv v i ≤ cv v' i → withB v v' m m' = false) := fun h => by
        unfold withB
        have : leV v v' = false := by rw [Bool.eq_false_iff, ne_eq, leV_iff]; exact fun e => h (e i hi5)
        rw [this]; rfl
      have HN : Hid (cv v i ≤ cv v' i → ∀ s, s < i + 1 → cv v s ≤ cv v' s) := fun h s hs => by
        by_cases e : s = i
        · subst e; exact h
        · exact HA.out s (by omega)
      clear e7 e8
      generalize cv v i = x at *
      generalize cv v' i = y at *
      by_cases hxy : x ≤ y
      · have hxyI : ¬ (y : Int) < (x : Int) := by omega
        go_wp2_with fail
        go_quiet (fail)
        go_wp2
        go_roundg (5 - (i + 1))
        case measure => omega
        case rel => exact ⟨i + 1, by omega, Nat.le_refl _, by go_num, ⟨q + nq, by rw [HW.out]; exact drewN_add ..⟩, HN.out hxy⟩
      · have hxyI : (y : Int) < (x : Int) := by omega
        go_wp2_with fail
        go_quiet (fail)
        go_wp2
        go_ret2
        exact ⟨by rw [HI.out hxy]; rfl, GW.out.drewN _⟩
    · obtain rfl : i = 5 := by omega
      have k0 : wr.heap[g0]? = some (.cells #[U, .slice ma N2 mc] 35 (0, 0)) := by rw [HW.out]; exact d0.out
      have k1 : wr.heap[g0 + 1]? = some (.cells #[U', .slice ma' N2' mc'] 35 (0, 0)) := by rw [HW.out]; exact d1.out
      have HF : Hid (withB v v' m m' = decide ((comL m v' m').length = m.length)) := by
        show _ = _
        unfold withB
        rw [(leV_iff v v').2 HA.out]; rfl
      clear e7 e8
      go_wp2_with fail
      refine wi11_reg _ (fun _ _ _ _ _ h => h) _ wr g0 (g0 + 1) U U' ma ma' N2 mc N2' mc' rfl rfl rfl ⟨k0, k1⟩ (Array.getElem?_eq_some_iff.1 k0).1 (Array.getElem?_eq_some_iff.1 k1).1 (fun p1 p2 p3 W => p2 = (comL m v' m').length)
        (fun W g => (HQ.out _ W (R2.out.gr (GW.out.trans g)) (GW.out.trans g)).mono fun e W' ⟨p1, p2, p3, h1, h2, h3⟩ => ⟨p1, p2, p3, h1, h2, h3.1⟩) (fun W p1 p2 p3 g f => ?_)
      simp only [Act.put, List.setIfInBounds_toArray, List.set_cons_zero, List.set_cons_succ]
      subst f
      have HE : Hid (decide ((((comL m v' m').length : Nat) : Int) = (N2 : Int)) = withB v v' m m') := by
        show _ = _
        rw [HF.out, HN2.out, Bool.eq_iff_iff]
        simp only [decide_eq_true_eq]
        omega
      have GF := Lib.hid (GW.out.trans g)
      generalize decide ((((comL m v' m').length : Nat) : Int) = (N2 : Int)) = bb at *
      go_wp2_with fail
      go_ret2
      exact ⟨by rw [← HE.out]; rfl, GF.out⟩

/-- what Add says first: the set's error, or the dot's -/
def chkA (V : List Int) (M : List (Int × Int)) (d : Int × Int) : Int := if chkK V M ≠ 0 then chkK V M else if dotB d then 0 else 1
set_option maxHeartbeats 1000000 in
set_option maxRecDepth 100000 in
theorem hasf_any (k : Value) (V : List Int) (M : List (Int × Int)) (d : Int × Int) (w : World) (hk : KnR w k V M) (hE : chkA V M d ≠ 0) :
    Calls Try.prog 68 #[k, .agg #[.int .i64 d.1, .int .i64 d.2]] w fun e w' => e = .returned (.tuple #[.bool false, .int .i64 (chkA V M d)]) ∧ Gr w w' := by
  have H1 : Hid (∀ W, Gr w W → Calls Try.prog 43 #[k] W fun e w' => e = .returned (.int .i64 (chkK V M)) ∧ Gr W w') := fun W g => kcheck_any k V M W (hk.gr g)
  have H2 := Lib.hid (dot_any d)
  have HA : Hid (chkA V M d = if chkK V M ≠ 0 then chkK V M else if dotB d then 0 else 1) := rfl
  obtain ⟨vv, mv, rfl, -⟩ := hk
  obtain ⟨x, y⟩ := d
  simp only at H2
  have G2 := Lib.hid (((Gr.refl w).alloc (.cells #[vv, mv] 35)).alloc (.cells #[.int .i64 x, .int .i64 y] 26))
  have T2 := Lib.hid (Two.new (w.alloc (.cells #[vv, mv] 35)) x y 26)
  rw [World.size_alloc] at T2
  by_cases h0 : chkK V M = 0
  · have hd : dotB (x, y) = false := by
      cases hq : dotB (x, y)
      · rfl
      · exfalso; apply hE; rw [HA.out, h0, hq]; simp
    have HR : Hid (chkA V M (x, y) = 1) := by show _ = _; rw [HA.out, h0, hd]; simp
    rw [h0] at H1
    rw [hd] at H2
    clear hE
    go_enter Try.func68, Try.ntmps68
    go_wp2_with (first
      | (go_at_call 43; refine (H1.out _ G2.out).mono ?_; rintro e w4 ⟨rfl, g4⟩; obtain ⟨t0, t1, t2⟩ := T2.out.gr g4; have G4 := Lib.hid (G2.out.trans g4); clear g4 T2)
      | (go_at_call 30; refine (H2.out _).mono ?_; rintro e w5 ⟨rfl, g5⟩))
    go_ret2
    exact ⟨by rw [HR.out]; rfl, G4.out.trans g5⟩
  · have HR : Hid (chkA V M (x, y) = chkK V M) := by show _ = _; rw [HA.out, if_pos h0]
    generalize chkK V M = E at *
    clear hE
    go_enter Try.func68, Try.ntmps68
    go_wp2_with (first
      | (go_at_call 43; refine (H1.out _ G2.out).mono ?_; rintro e w4 ⟨rfl, g4⟩))
    go_ret2
    exact ⟨by rw [HR.out]; rfl, G2.out.trans g4⟩
set_option maxHeartbeats 1000000 in
set_option maxRecDepth 100000 in
theorem hasf_ok (k : Value) (v : List Nat) (m : List (Nat × Nat)) (s c : Nat) (w : World) (hk : KnR w k (ints v) (pairs m)) (ho : OkV v m) (hl : m.length ≤ 60) (hd : inR s c) :
    Calls Try.prog 68 #[k, .agg #[.int .i64 (s : Int), .int .i64 (c : Int)]] w fun e w' => e = .returned (.tuple #[.bool (memB v m s c), .int .i64 0]) ∧ Gr w w' := by
  have H1 : Hid (∀ W, Gr w W → Calls Try.prog 43 #[k] W fun e w' => e = .returned (.int .i64 0) ∧ Gr W w') := fun W g => by
    have := kcheck_any k _ _ W (hk.gr g)
    rwa [ho.chk hl] at this
  have H2 : Hid (∀ W, Calls Try.prog 30 #[.agg #[.int .i64 (s : Int), .int .i64 (c : Int)]] W fun e w' => e = .returned (.bool true) ∧ Gr W w') := fun W => by
    have := dot_any ((s : Int), (c : Int)) W
    have e : dotB ((s : Int), (c : Int)) = true := by rw [dotB_iff]; have := hd.1; have := hd.2.1; have := hd.2.2; simp only; omega
    rwa [e] at this
  have H3 : Hid (∀ W, Gr w W → Calls Try.prog 92 #[k, .agg #[.int .i64 (s : Int), .int .i64 (c : Int)]] W fun e w' => e = .returned (.bool (memB v m s c)) ∧ Gr W w') := fun W g => khas_any k v m s c W (hk.gr g) ho hl hd
  obtain ⟨vv, mv, rfl, -⟩ := hk
  have G2 := Lib.hid (((Gr.refl w).alloc (.cells #[vv, mv] 35)).alloc (.cells #[.int .i64 (s : Int), .int .i64 (c : Int)] 26))
  have B0 : Hid (((w.alloc (.cells #[vv, mv] 35)).alloc (.cells #[.int .i64 (s : Int), .int .i64 (c : Int)] 26)).heap[w.heap.size]? = some (.cells #[vv, mv] 35 (0, 0))) := (al_old _ _ _ (by simp)).trans (al_new _ _ _ rfl)
  have B1 : Hid (((w.alloc (.cells #[vv, mv] 35)).alloc (.cells #[.int .i64 (s : Int), .int .i64 (c : Int)] 26)).heap[w.heap.size + 1]? = some (.cells #[.int .i64 (s : Int), .int .i64 (c : Int)] 26 (0, 0))) := al_new _ _ _ (by simp)
  generalize memB v m s c = R at *
  go_enter Try.func68, Try.ntmps68
  go_wp2_with (first
    | (go_at_call 43; refine (H1.out _ G2.out).mono ?_; rintro e w4 ⟨rfl, g4⟩; have b0 := Lib.hid ((Below.block g4 _ (Array.getElem?_eq_some_iff.1 B0.out).1).trans B0.out); have b1 := Lib.hid ((Below.block g4 _ (Array.getElem?_eq_some_iff.1 B1.out).1).trans B1.out); have c0 := kc0 b1.out; have c1 := kc1 b1.out; have G4 := Lib.hid (G2.out.trans g4); clear g4 B0 B1)
    | (go_at_call 30; refine (H2.out _).mono ?_; rintro e w5 ⟨rfl, g5⟩; have e0 := (Below.block g5 _ (Array.getElem?_eq_some_iff.1 b0.out).1).trans b0.out; have e1 := (Below.block g5 _ (Array.getElem?_eq_some_iff.1 b1.out).1).trans b1.out; have k0 := kc0 e0; have k1 := kc1 e0; have k2 := kc0 e1; have k3 := kc1 e1; have G5 := Lib.hid (G4.out.trans g5); clear g5 e0 e1 c0 c1)
    | (go_at_call 92; refine (H3.out _ G5.out).mono ?_; rintro e w6 ⟨rfl, g6⟩))
  go_ret2
  exact ⟨rfl, G5.out.trans g6⟩
set_option maxHeartbeats 1000000 in
set_option maxRecDepth 100000 in
theorem kcount_bad (k : Value) (V : List Int) (M : List (Int × Int)) (w : World) (hk : KnR w k V M) (hE : chkK V M ≠ 0) :
    Calls Try.prog 19 #[k] w fun e w' => e = .returned (.tuple #[.int .i64 0, .int .i64 (chkK V M)]) ∧ Gr w w' := by
  have H1 : Hid (∀ W, Gr w W → Calls Try.prog 43 #[k] W fun e w' => e = .returned (.int .i64 (chkK V M)) ∧ Gr W w') := fun W g => kcheck_any k V M W (hk.gr g)
  obtain ⟨vv, mv, rfl, -⟩ := hk
  generalize chkK V M = E at *
  have G2 := Lib.hid ((Gr.refl w).alloc (.cells #[vv, mv] 35))
  go_enter Try.func19, Try.ntmps19
  go_wp2_with (go_at_call 43; refine (H1.out _ G2.out).mono ?_; rintro e w4 ⟨rfl, g4⟩)
  go_ret2
  exact ⟨rfl, G2.out.trans g4⟩
theorem sum_take (v : List Nat) (i x : Nat) (h : v[i]? = some x) : (v.take (i + 1)).sum = (v.take i).sum + x := by rw [take_snoc h, List.sum_append]; simp
theorem sum_bound (v : List Nat) (h : ∀ x ∈ v, x ≤ 1000) : v.sum ≤ v.length * 1000 := by
  induction v with
  | nil => simp
  | cons a v ih =>
    have h1 := h a (by simp)
    have h2 := ih (fun x hx => h x (by simp [hx]))
    simp only [List.sum_cons, List.length_cons]
    omega
set_option maxHeartbeats 1000000 in
set_option maxRecDepth 100000 in
theorem count_ok (k : Value) (v : List Nat) (m : List (Nat × Nat)) (w : World) (hk : KnR w k (ints v) (pairs m)) (ho : OkV v m) (hl : m.length ≤ 60) :
    Calls Try.prog 19 #[k] w fun e w' => e = .returned (.tuple #[.int .i64 ((v.sum + m.length : Nat) : Int), .int .i64 0]) ∧ Gr w w' := by
  have H1 : Hid (∀ W, Gr w W → Calls Try.prog 43 #[k] W fun e w' => e = .returned (.int .i64 0) ∧ Gr W w') := fun W g => by
    have := kcheck_any k _ _ W (hk.gr g)
    rwa [ho.chk hl] at this
  obtain ⟨vv, mv, rfl, r1, r2, -⟩ := hk
  obtain ⟨va, vc, rfl, hvc, hv⟩ := r1
  obtain ⟨ma, mc, rfl, -⟩ := r2
  have HV := Lib.hid hv
  have hle := ho.le
  have hlen := ho.len
  have HLE := Lib.hid hle
  have hn1 := ints_len v
  have hn2 := pairs_len m
  clear hv hle
  rw [hn1] at hvc
  generalize hN1 : (ints v).length = N1 at *
  generalize hN2 : (pairs m).length = N2 at *
  subst hn1
  subst hn2
  have G2 := Lib.hid ((Gr.refl w).alloc (.cells #[.slice va v.length vc, .slice ma m.length mc] 35))
  have B0 : Hid ((w.alloc (.cells #[.slice va v.length vc, .slice ma m.length mc] 35)).heap[w.heap.size]? = some (.cells #[.slice va v.length vc, .slice ma m.length mc] 35 (0, 0))) := al_new _ _ _ rfl
  have hmI : (m.length : Int) ≤ 60 := by omega
  have hvI : (v.length : Int) ≤ 5 := by omega
  go_enter Try.func19, Try.ntmps19
  go_wp2_with (go_at_call 43; refine (H1.out _ G2.out).mono ?_; rintro e w4 ⟨rfl, g4⟩; have b0 := (Below.block g4 _ (Array.getElem?_eq_some_iff.1 B0.out).1).trans B0.out; have c0 := kc0 b0; have c1 := kc1 b0; have G4 := Lib.hid (G2.out.trans g4); clear g4 B0 b0 H1 G2)
  go_loopg [5, 19] v.length (fun gh s5 ix wr => ∃ i : Nat, i ≤ v.length ∧ v.length - i ≤ gh ∧ ix = .int .i64 (i : Int) ∧ s5 = .int .i64 (((v.take i).sum + m.length : Nat) : Int) ∧ wr = w4)
  case atStart => exact ⟨0, by omega, by omega, rfl, by simp, rfl⟩
  case round =>
    obtain ⟨i, hi, hgh, rfl, rfl, rfl⟩ := hrel
    by_cases hil : i < v.length
    · obtain ⟨x, hx⟩ : ∃ x, v[i]? = some x := ⟨_, List.getElem?_eq_getElem hil⟩
      obtain ⟨b, off, hab, hb, hcell⟩ := HV.out (by intro e; simp [ints] at e; rw [e] at hil; simp at hil)
      subst hab
      have q1 := (G4.out.cells.1 b (off + i) hb).trans (hcell i _ (ints_at hx))
      have hiI : (i : Int) < (v.length : Int) := by omega
      have HS := Lib.hid (sum_take v i x hx)
      have h1 : (v.take i).sum ≤ 5000 := by
        have := sum_bound (v.take i) (fun y hy => HLE.out y (List.mem_of_mem_take hy))
        have : (v.take i).length ≤ 5 := by simp; omega
        omega
      have h2 : x ≤ 1000 := HLE.out x (List.mem_of_getElem? hx)
      clear hcell hx
      generalize (v.take i).sum = S at *
      have hSI : (S : Int) ≤ 5000 := by omega
      have hxI : (x : Int) ≤ 1000 := by omega
      go_wp2
      go_roundg (v.length - (i + 1))
      case measure => omega
      case rel => exact ⟨i + 1, by omega, Nat.le_refl _, by go_num, by rw [HS.out]; congr 1; omega, rfl⟩
    · obtain rfl : i = v.length := by omega
      rw [List.take_length]
      go_wp2
      go_ret2
      exact ⟨rfl, G4.out⟩
end Go.Proofs.Ytghjfakellaecaa
