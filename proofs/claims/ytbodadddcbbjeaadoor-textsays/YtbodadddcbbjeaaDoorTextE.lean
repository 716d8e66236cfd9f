/- Package text: parse and Read. -/
import Derived.Test.YtbodadddcbbjeaaDoorTextD
namespace Rm
open Go Go.RowKit
/-- the nodes of a text that has the form -/
def parseL (s : List UInt8) : Option (List Nd) :=
  match pNode (s.length + 1) s [] with
  | some ([], m) => some m
  | _ => none
/-- what Read says of a text: its error, and its nodes -/
def readL (s : List UInt8) : Int × List Nd :=
  if 400 < s.length then (2, []) else
  match parseL s with
  | none => (9, [])
  | some m => if chkL m = 0 then (0, m) else (chkL m, [])
end Rm
namespace Go.Proofs.YtbodadddcbbjeaaDoor
open Go.RowKit Rm
/-- what parse says -/
def ParseAt (w : World) (s : List UInt8) (e : Ending) (w' : World) : Prop :=
  Gr w w' ∧ match parseL s with
  | none => e = .returned (.tuple #[.slice none 0 0, .int .i64 9])
  | some m => ∃ u, e = .returned (.tuple #[u, .int .i64 0]) ∧ OwnN w.heap.size w' u m
set_option linter.unusedVariables false
set_option linter.unusedSimpArgs false

theorem ta_yes (v : Value) (w : World) : (Instr.typeAssert (.iface 23 v) 20 23 true).run Tryd.prog w = .ok (.tuple #[v, .bool true]) w := by kernel_rfl
theorem ta_no (w : World) : (Instr.typeAssert .nilIface 20 23 true).run Tryd.prog w = .ok (.tuple #[.int .i64 0, .bool false]) w := by kernel_rfl
theorem rep9 (v : Value) : Array.replicate 9 v = #[v, v, v, v, v, v, v, v, v] := rfl

set_option maxHeartbeats 400000 in
set_option maxRecDepth 100000 in
theorem catch_raised (p q : Nat) (hpq : p ≠ q) (v0 v1 : Value) (w : World) (h1 : w.heap[p]? = some (.cells #[v0] 22 (0, 0))) (h2 : w.heap[q]? = some (.cells #[v1] 23 (0, 0))) :
    CallsD Tryd.prog 41 #[.pointer (some ⟨p, 0, none⟩), .pointer (some ⟨q, 0, none⟩)] (.panicking [errW]) w fun e u' w' =>
      e = .returned (.tuple #[]) ∧ u' = .panicking [{ errW with recovered := true }] ∧ w' = (w.setCell ⟨p, 0, none⟩ (.slice none 0 0)).setCell ⟨q, 0, none⟩ (.int .i64 9) := by
  have c1 : w.cell? ⟨p, 0, none⟩ = some v0 := by rw [cell_of_row _ _ _ _ _ _ h1]; rfl
  have f1 := frozen_of_row w p 0 _ _ h1
  have h2' : (w.setCell ⟨p, 0, none⟩ (.slice none 0 0)).heap[q]? = some (.cells #[v1] 23 (0, 0)) := by rw [heap_setCell_other _ _ _ _ (by simpa using hpq.symm)]; exact h2
  have c2 : (w.setCell ⟨p, 0, none⟩ (.slice none 0 0)).cell? ⟨q, 0, none⟩ = some v1 := by rw [cell_of_row _ _ _ _ _ _ h2']; rfl
  have f2 := frozen_of_row _ q 0 _ _ h2'
  refine callsD_of_wpS Tryd.func41 rfl fun c₀ cs hu => ?_
  apply wpS_seq
  apply wpS_region
  simp [wpOpsS, go_sem, recoverD, hu, errW, Tryd.ntmps41, Exit.thenS, ta_yes, rep9]
  apply wpS_seq
  apply wpS_region
  simp [wpOpsS, go_sem, Exit.thenS]
  refine wpS_cond (t := true) (by simp [Act.eval]) ?_
  simp only [if_true]
  apply wpS_region
  simp [wpOpsS, go_sem, c1, f1, c2, f2, bodyPostS, results, Tryd.results41]

set_option maxHeartbeats 400000 in
set_option maxRecDepth 100000 in
theorem catch_idle (p q : Nat) (w : World) :
    CallsD Tryd.prog 41 #[.pointer (some ⟨p, 0, none⟩), .pointer (some ⟨q, 0, none⟩)] .returning w fun e u' w' =>
      e = .returned (.tuple #[]) ∧ u' = .returning ∧ w' = w := by
  refine callsD_of_wpS Tryd.func41 rfl fun c₀ cs hu => ?_
  apply wpS_seq
  apply wpS_region
  simp [wpOpsS, go_sem, recoverD, hu, errW, Tryd.ntmps41, Exit.thenS, ta_no, rep9]
  apply wpS_seq
  apply wpS_region
  simp [wpOpsS, go_sem, Exit.thenS]
  refine wpS_cond (t := false) (by simp [Act.eval]) ?_
  simp only [Bool.false_eq_true, if_false]
  refine wpS_of_wp (wp_skip ?_)
  cases c₀
  simp_all [bodyPostS, results, Tryd.results41]

/-- how parse begins -/
theorem parse_begin (s : List UInt8) (w : World) : ∃ w3, w3 = (((w.alloc (.cells #[.slice none 0 0] 22)).alloc (.cells #[.int .i64 0] 23)).alloc (.cells #[.string (str s), .slice none 0 0] 78)) ∧
    PAt w w3 (w.heap.size + 1 + 1) s [] ∧ w3.heap[w.heap.size]? = some (.cells #[.slice none 0 0] 22 (0, 0)) ∧ w3.heap[w.heap.size + 1]? = some (.cells #[.int .i64 0] 23 (0, 0)) := by
  refine ⟨_, rfl, ⟨(((Gr.refl w).alloc _).alloc _).alloc _, by omega, .slice none 0 0, ?_, ?_⟩, ?_, ?_⟩
  · have := heap_alloc_new ((w.alloc (.cells #[.slice none 0 0] 22)).alloc (.cells #[.int .i64 0] 23)) (.cells #[.string (str s), .slice none 0 0] 78)
    rwa [World.size_alloc, World.size_alloc] at this
  · exact World.ownsRow_nil _ _ _ _
  · exact (Below.block ((((Gr.refl (w.alloc (.cells #[.slice none 0 0] 22))).alloc (.cells #[.int .i64 0] 23)).alloc (.cells #[.string (str s), .slice none 0 0] 78))) _ (by simp)).trans (heap_alloc_new _ _)
  · exact (Below.block (((Gr.refl ((w.alloc (.cells #[.slice none 0 0] 22)).alloc (.cells #[.int .i64 0] 23))).alloc (.cells #[.string (str s), .slice none 0 0] 78))) _ (by simp)).trans (by have := heap_alloc_new (w.alloc (.cells #[.slice none 0 0] 22)) (.cells #[.int .i64 0] 23); rwa [World.size_alloc] at this)
theorem parse_left {s : List UInt8} {w w1 : World} (g : Gr w w1) (h1 : w1.heap[w.heap.size]? = some (.cells #[.slice none 0 0] 22 (0, 0))) (h2 : w1.heap[w.heap.size + 1]? = some (.cells #[.int .i64 0] 23 (0, 0))) (hp : parseL s = none) :
    ∃ w2, w2 = (w1.setCell ⟨w.heap.size, 0, none⟩ (.slice none 0 0)).setCell ⟨w.heap.size + 1, 0, none⟩ (.int .i64 9) ∧ w2.cell? ⟨w.heap.size, 0, none⟩ = some (.slice none 0 0) ∧ w2.cell? ⟨w.heap.size + 1, 0, none⟩ = some (.int .i64 9) ∧ ParseAt w s (.returned (.tuple #[.slice none 0 0, .int .i64 9])) w2 := by
  have k1 : (w1.setCell ⟨w.heap.size, 0, none⟩ (.slice none 0 0)).heap[w.heap.size + 1]? = some (.cells #[.int .i64 0] 23 (0, 0)) := by rw [heap_setCell_other _ _ _ _ (by simp)]; exact h2
  have k2 := heap_setCell_same _ _ 0 _ _ (.int .i64 9) k1
  have k3 := heap_setCell_same _ _ 0 _ _ (.slice none 0 0) h1
  refine ⟨_, rfl, ?_, ?_, ?_⟩
  · rw [cell_of_row _ _ _ _ _ _ ((heap_setCell_other _ _ _ _ (by simp)).trans k3)]; rfl
  · rw [cell_of_row _ _ _ _ _ _ k2]; rfl
  · exact ⟨(g.setCell (p := ⟨w.heap.size, 0, none⟩) (Nat.le_refl _) _).setCell (p := ⟨w.heap.size + 1, 0, none⟩) (by simp) _, by rw [hp]⟩

set_option maxHeartbeats 1000000 in
set_option maxRecDepth 100000 in
theorem parse_any (s : List UInt8) (w : World) (hs : s.length ≤ 400) :
    Calls Tryd.prog 21 #[.string (str s)] w fun e w' => ParseAt w s e w' := by
  have hmf : ∀ (fn : Fn) (first cap : Array Value) (w : World), (Instr.makeFunc fn first cap).run Tryd.prog w = .ok (.func fn first cap) w := fun _ _ _ _ => rfl
  obtain ⟨w3, e3, h3, k1, k2⟩ := parse_begin s w
  have H := Lib.hid (node_any (w0 := w) (B := w.heap.size + 1 + 1) (s.length + 1) s [] w3 (by omega) (by simp; omega) h3)
  have K1 := Lib.hid k1
  have K2 := Lib.hid k2
  have hnn : (ByteArray.mk #[]).toList = [] := str_list []
  cases hp : pNode (s.length + 1) s [] with
  | none =>
    have hn : parseL s = none := by simp [parseL, hp]
    rw [hp] at H
    simp only [NodeSays] at H
    clear h3 k1 k2
    subst e3
    go_enter_defers Tryd.func21, Tryd.ntmps21
    go_wp2_with (go_at_call 42; refine H.out.mono ?_; rintro e w1 ⟨rfl, g1, t1⟩)
    refine leaves_cons (f := 41) (args := #[.pointer (some ⟨w.heap.size, 0, none⟩), .pointer (some ⟨w.heap.size + 1, 0, none⟩)]) (by simp) (by simp [go_sem]) ?_
    have m1 := t1 _ _ _ _ K1.out (by decide) (by decide)
    have m2 := t1 _ _ _ _ K2.out (by decide) (by decide)
    obtain ⟨w2, e2, c1, c2, hP⟩ := parse_left g1 m1 m2 hn
    refine (catch_raised _ _ (by omega) _ _ _ m1 m2).mono ?_
    rintro e u' w'' ⟨rfl, rfl, rfl⟩
    rw [← e2]
    simp [Leaves, settle, results, Tryd.results21, go_sem, errW, c1, c2, hP]
  | some p =>
    obtain ⟨r, m⟩ := p
    rw [hp] at H
    simp only [NodeSays] at H
    generalize ((m.length - 1 : Nat) : Int) = im at *
    cases r with
    | cons c r =>
      have hn : parseL s = none := by simp [parseL, hp]
      have hs2 := str_list (c :: r)
      clear h3 k1 k2
      subst e3
      go_enter_defers Tryd.func21, Tryd.ntmps21
      go_wp2_with (go_at_call 42; refine H.out.mono ?_; rintro e w1 ⟨rfl, g1, t1⟩; have c1 := g1.cell)
      refine leaves_cons (f := 41) (args := #[.pointer (some ⟨w.heap.size, 0, none⟩), .pointer (some ⟨w.heap.size + 1, 0, none⟩)]) (by simp) (by simp [go_sem]) ?_
      have m1 := t1 _ _ _ _ K1.out (by decide) (by decide)
      have m2 := t1 _ _ _ _ K2.out (by decide) (by decide)
      obtain ⟨w2, e2, c1, c2, hP⟩ := parse_left g1.1 m1 m2 hn
      refine (catch_raised _ _ (by omega) _ _ _ m1 m2).mono ?_
      rintro e u' w'' ⟨rfl, rfl, rfl⟩
      rw [← e2]
      simp [Leaves, settle, results, Tryd.results21, go_sem, errW, c1, c2, hP]
    | nil =>
      have hn : parseL s = some m := by simp [parseL, hp]
      have hs2 := str_list []
      clear h3 k1 k2
      subst e3
      go_enter_defers Tryd.func21, Tryd.ntmps21
      go_wp2_with (go_at_call 42; refine H.out.mono ?_; rintro e w1 ⟨rfl, g1, t1⟩; have c1 := g1.cell; obtain ⟨q1, q2, u, q3, q4⟩ := g1; obtain ⟨ua, uc, rfl, huc⟩ := own_form q4; have m1 := t1 _ _ _ _ K1.out (by decide) (by decide); have m2 := t1 _ _ _ _ K2.out (by decide) (by decide); have c2 : w1.cell? ⟨w.heap.size + 1 + 1, 1, none⟩ = some (.slice ua m.length uc) := (by rw [cell_of_row _ _ _ _ _ _ q3]; rfl); have d1 : w1.cell? ⟨w.heap.size, 0, none⟩ = some (.slice none 0 0) := (by rw [cell_of_row _ _ _ _ _ _ m1]; rfl); have d2 : w1.cell? ⟨w.heap.size + 1, 0, none⟩ = some (.int .i64 0) := (by rw [cell_of_row _ _ _ _ _ _ m2]; rfl); have f1 := frozen_of_row w1 w.heap.size 0 _ _ m1; have f2 := frozen_of_row w1 (w.heap.size + 1) 0 _ _ m2; have Q1 := Lib.hid q1; have Q4 := Lib.hid q4; have M1 := Lib.hid m1; have M2 := Lib.hid m2; clear q3 q4 q1 m1 m2)
      refine leaves_cons (f := 41) (args := #[.pointer (some ⟨w.heap.size, 0, none⟩), .pointer (some ⟨w.heap.size + 1, 0, none⟩)]) (by simp) (by simp [go_sem]) ?_
      have k3 := heap_setCell_same _ _ 0 _ _ (.slice ua m.length uc) M1.out
      have k1 : (w1.setCell ⟨w.heap.size, 0, none⟩ (.slice ua m.length uc)).heap[w.heap.size + 1]? = some (.cells #[.int .i64 0] 23 (0, 0)) := by rw [heap_setCell_other _ _ _ _ (by simp)]; exact M2.out
      have k2 := heap_setCell_same _ _ 0 _ _ (.int .i64 0) k1
      have hO : OwnN w.heap.size ((w1.setCell ⟨w.heap.size, 0, none⟩ (.slice ua m.length uc)).setCell ⟨w.heap.size + 1, 0, none⟩ (.int .i64 0)) (.slice ua m.length uc) m := by
        have o1 := own_far (o := 0) (x := .slice ua m.length uc) Q4.out (own_ne Q4.out M1.out (by decide))
        exact own_far o1 (own_ne o1 k1 (by decide))
      have hG : Gr w ((w1.setCell ⟨w.heap.size, 0, none⟩ (.slice ua m.length uc)).setCell ⟨w.heap.size + 1, 0, none⟩ (.int .i64 0)) := (Q1.out.setCell (p := ⟨w.heap.size, 0, none⟩) (Nat.le_refl _) _).setCell (p := ⟨w.heap.size + 1, 0, none⟩) (by simp) _
      have x1 : ((w1.setCell ⟨w.heap.size, 0, none⟩ (.slice ua m.length uc)).setCell ⟨w.heap.size + 1, 0, none⟩ (.int .i64 0)).cell? ⟨w.heap.size, 0, none⟩ = some (.slice ua m.length uc) := by
        rw [cell_of_row _ _ _ _ _ _ ((heap_setCell_other _ _ _ _ (by simp)).trans k3)]; rfl
      have x2 : ((w1.setCell ⟨w.heap.size, 0, none⟩ (.slice ua m.length uc)).setCell ⟨w.heap.size + 1, 0, none⟩ (.int .i64 0)).cell? ⟨w.heap.size + 1, 0, none⟩ = some (.int .i64 0) := by
        rw [cell_of_row _ _ _ _ _ _ k2]; rfl
      generalize (w1.setCell ⟨w.heap.size, 0, none⟩ (.slice ua m.length uc)).setCell ⟨w.heap.size + 1, 0, none⟩ (.int .i64 0) = w2 at *
      have hP : ParseAt w s (.returned (.tuple #[.slice ua m.length uc, .int .i64 0])) w2 := ⟨hG, by rw [hn]; exact ⟨_, rfl, hO⟩⟩
      refine (catch_idle _ _ _).mono ?_
      rintro e u' w'' ⟨rfl, rfl, rfl⟩
      simp [Leaves, settle, results, Tryd.results21, go_sem, x1, x2, hP]

set_option maxHeartbeats 1000000 in
set_option maxRecDepth 100000 in
theorem read_any (s : List UInt8) (w : World) :
    Calls Tryd.prog 7 #[.string (str s)] w fun e w' => ∃ u, e = .returned (.tuple #[u, .int .i64 (readL s).1]) ∧ Gr w w' ∧ OwnN w.heap.size w' u (readL s).2 := by
  have hz : ((str s).size : Int) = (s.length : Int) := by rw [str_size]
  by_cases h4 : 400 < s.length
  · have hr : readL s = (2, []) := by simp [readL, h4]
    rw [hr]
    have h4' : (400 : Int) < (s.length : Int) := by omega
    have h4'' : (400 : Int) < ((str s).size : Int) := by omega
    go_enter Tryd.func7, Tryd.ntmps7
    go_wp2
    go_ret2
    exact ⟨_, rfl, Gr.refl _, World.ownsRow_nil _ _ _ _⟩
  · have h4' : ¬ (400 : Int) < (s.length : Int) := by omega
    have h4'' : ¬ (400 : Int) < ((str s).size : Int) := by omega
    have H := Lib.hid (parse_any s w (by omega))
    cases hp : parseL s with
    | none =>
      have hr : readL s = (9, []) := by simp [readL, h4, hp]
      rw [hr]
      simp only [ParseAt, hp] at H
      go_enter Tryd.func7, Tryd.ntmps7
      go_wp2_with (go_at_call 21; refine H.out.mono ?_; rintro e w1 ⟨g1, rfl⟩)
      go_ret2
      exact ⟨_, rfl, g1, World.ownsRow_nil _ _ _ _⟩
    | some m =>
      simp only [ParseAt, hp] at H
      by_cases hc : chkL m = 0
      · have hr : readL s = (0, m) := by simp [readL, h4, hp, hc]
        rw [hr]
        go_enter Tryd.func7, Tryd.ntmps7
        go_wp2_with (first | (go_at_call 21; refine H.out.mono ?_; rintro e w1 ⟨g1, u, rfl, hu⟩) | (go_at_call 19; refine (lcheck_any _ _ _ hu.rd).mono ?_; rintro e w2 ⟨rfl, g2⟩; rw [hc]))
        go_ret2
        exact ⟨_, rfl, g1.trans g2, hu.gr g2⟩
      · have hr : readL s = (chkL m, []) := by simp [readL, h4, hp, hc]
        rw [hr]
        have hne : (chkL m != 0) = true := by simpa using hc
        generalize hk : chkL m = k at *
        go_enter Tryd.func7, Tryd.ntmps7
        go_wp2_with (first | (go_at_call 21; refine H.out.mono ?_; rintro e w1 ⟨g1, u, rfl, hu⟩) | (go_at_call 19; refine (lcheck_any _ _ _ hu.rd).mono ?_; rintro e w2 ⟨rfl, g2⟩; rw [hk]))
        go_ret2
        exact ⟨_, rfl, g1.trans g2, World.ownsRow_nil _ _ _ _⟩
end Go.Proofs.YtbodadddcbbjeaaDoor
