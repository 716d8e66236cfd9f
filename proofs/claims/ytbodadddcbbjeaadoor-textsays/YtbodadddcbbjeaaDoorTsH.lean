/- The document's own Read; what is the same node. -/
import Derived.Test.YtbodadddcbbjeaaDoorTsG
import Derived.Laws.StructEq
namespace Go.Proofs.YtbodadddcbbjeaaDoor
open Go.RowKit Rm
set_option linter.unusedVariables false
set_option linter.unusedSimpArgs false
set_option maxHeartbeats 1000000 in
set_option maxRecDepth 100000 in
theorem rread_any (s : List UInt8) (w : World) :
    Calls Tryd.prog 11 #[.string (str s)] w fun e w' => ∃ u, e = .returned (.tuple #[u, .int .i64 (readL s).1]) ∧ Gr w w' ∧ OwnN w.heap.size w' u (readL s).2 := by
  have hz : ((str s).size : Int) = (s.length : Int) := by rw [str_size]
  have hnn : (ByteArray.mk #[]).toList = [] := str_list []
  by_cases h4 : 400 < s.length
  · have hr : readL s = (2, []) := by simp [readL, h4]
    rw [hr]
    have h4' : (400 : Int) < (s.length : Int) := by omega
    have h4'' : (400 : Int) < ((str s).size : Int) := by omega
    go_enter Tryd.func11, Tryd.ntmps11
    go_wp2_with fail
    go_ret2
    exact ⟨_, rfl, Gr.refl _, World.ownsRow_nil _ _ _ _⟩
  · have h4' : ¬ (400 : Int) < (s.length : Int) := by omega
    have h4'' : ¬ (400 : Int) < ((str s).size : Int) := by omega
    have H := Lib.hid (read_to (s.length + 1) s [] (.slice none 0 0) w.heap.size w (by omega) (by simp; omega) (by omega) (nil_own _ _) (Nat.le_refl _))
    have hpe := rParse_eq s
    cases hp : rNode (s.length + 1) s [] with
    | none =>
      have hr : readL s = (9, []) := by
        have : parseL s = none := by rw [← hpe]; simp [rParse, hp]
        simp [readL, h4, this]
      rw [hr]
      simp only [RSays, hp] at H
      go_enter Tryd.func11, Tryd.ntmps11
      go_wp2_with (go_at_call 27; refine H.out.mono ?_; rintro e w1 ⟨g1, r1, rfl⟩)
      go_ret2
      exact ⟨_, rfl, (Gr.refl w).grown g1 (fun k e => nil_block e), World.ownsRow_nil _ _ _ _⟩
    | some p =>
      obtain ⟨r, m⟩ := p
      simp only [RSays, hp] at H
      cases r with
      | cons c r =>
        have hr : readL s = (9, []) := by
          have : parseL s = none := by rw [← hpe]; simp [rParse, hp]
          simp [readL, h4, this]
        rw [hr]
        have hs2 := str_list (c :: r)
        go_enter Tryd.func11, Tryd.ntmps11
        go_wp2_with (go_at_call 27; refine H.out.mono ?_; rintro e w1 ⟨g1, u1, rfl, o1, -⟩)
        go_ret2
        exact ⟨_, rfl, (Gr.refl w).grown g1 (fun k e => nil_block e), World.ownsRow_nil _ _ _ _⟩
      | nil =>
        have hm : parseL s = some m := by rw [← hpe]; simp [rParse, hp]
        have hs2 := str_list []
        by_cases hc : chkL m = 0
        · have hr : readL s = (0, m) := by simp [readL, h4, hm, hc]
          rw [hr]
          go_enter Tryd.func11, Tryd.ntmps11
          go_wp2_with (first | (go_at_call 27; refine H.out.mono ?_; rintro e w1 ⟨g1, u1, rfl, o1, -⟩) | (go_at_call 9; refine (rsentence_any _ _ _ o1.rd).mono ?_; rintro e w2 ⟨rfl, g2⟩; rw [hc]))
          go_ret2
          exact ⟨_, rfl, ((Gr.refl w).grown g1 (fun k e => nil_block e)).trans g2, o1.gr g2⟩
        · have hr : readL s = (chkL m, []) := by simp [readL, h4, hm, hc]
          rw [hr]
          have hne : (chkL m != 0) = true := by simpa using hc
          generalize hk : chkL m = k at *
          go_enter Tryd.func11, Tryd.ntmps11
          go_wp2_with (first | (go_at_call 27; refine H.out.mono ?_; rintro e w1 ⟨g1, u1, rfl, o1, -⟩) | (go_at_call 9; refine (rsentence_any _ _ _ o1.rd).mono ?_; rintro e w2 ⟨rfl, g2⟩; rw [hk]))
          go_ret2
          exact ⟨_, rfl, ((Gr.refl w).grown g1 (fun k e => nil_block e)).trans g2, World.ownsRow_nil _ _ _ _⟩
set_option maxHeartbeats 1000000 in
set_option maxRecDepth 100000 in
theorem node1_same (k a b : Int) (w : World) :
    Calls Tryd.prog 23 #[.agg #[.int .i64 k, .int .i64 a, .int .i64 b], .agg #[.int .i64 k, .int .i64 a, .int .i64 b]] w fun e w' => e = .returned (.bool true) ∧ Gr w w' := by
  have hk0 : (k != k) = false := by simp
  by_cases h1 : k = 1
  · subst h1
    go_enter Tryd.func23, Tryd.ntmps23
    go_wp2_with fail
    go_ret
    exact ⟨rfl, ((Gr.refl _).alloc _).alloc _⟩
  · by_cases h2 : k = 2
    · subst h2
      go_enter Tryd.func23, Tryd.ntmps23
      go_wp2_with fail
      go_ret
      exact ⟨by simp, ((Gr.refl _).alloc _).alloc _⟩
    · by_cases h4 : k = 4
      · subst h4
        go_enter Tryd.func23, Tryd.ntmps23
        go_wp2_with fail
        go_ret
        exact ⟨by simp, ((Gr.refl _).alloc _).alloc _⟩
      · have b1 : (k == 1) = false := by simpa using h1
        have b2 : (k == 2) = false := by simpa using h2
        have b4 : (k == 4) = false := by simpa using h4
        clear h1 h2 h4
        go_enter Tryd.func23, Tryd.ntmps23
        go_wp2_with fail
        go_ret
        exact ⟨by simp, ((Gr.refl _).alloc _).alloc _⟩
end Go.Proofs.YtbodadddcbbjeaaDoor
