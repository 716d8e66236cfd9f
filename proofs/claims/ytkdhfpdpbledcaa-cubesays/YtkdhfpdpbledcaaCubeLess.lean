/- The contract of cube.Less. -/
import Derived.Test.YtkdhfpdpbledcaaCubeA
import Derived.Test.YtkdhfpdpbledcaaRows2
import Derived.Test.YtkdhfpdpbledcaaPure4
import Derived.LoopTactic
import Derived.RegionTactic
namespace Go.Proofs.Ytkdhfpdpbledcaa
open Go.RowKit Rm
set_option linter.unusedVariables false

set_option maxHeartbeats 400000 in
theorem less_bad (y n y' n' : Int) (w : World) (hc : (chk2 y n y' n' == 0) = false) :
    Calls Try.prog 30 #[.agg #[.int .i64 y, .int .i64 n], .agg #[.int .i64 y', .int .i64 n']] w fun e w' => e = .returned (.tuple #[.slice none 0 0, .int .i64 (chk2 y n y' n')]) ∧ Gr w w' := by
  have hc' := bne_of' hc
  go_enter Try.func30, Try.ntmps30
  go_wp2_with fail
  refine (checkBoth_any _ _ _ _ _).mono ?_
  rintro e w1 ⟨rfl, hb⟩
  go_wp2_with fail
  go_ret2
  exact ⟨rfl, (((Gr.refl _).alloc _).alloc _).trans hb⟩


set_option maxHeartbeats 400000 in
theorem less_apart (y n y' n' : Nat) (w : World) (h : Vld y n) (h' : Vld y' n') (ha : apartB y n y' n' = true) :
    Calls Try.prog 30 #[.agg #[.int .i64 y, .int .i64 n], .agg #[.int .i64 y', .int .i64 n']] w fun e w' =>
      ∃ v, e = .returned (.tuple #[v, .int .i64 0]) ∧ Rd2 w' v (pairs [(y, n)]) ∧ Gr w w' := by
  have hc := h.chk2 h'
  go_enter Try.func30, Try.ntmps30
  go_wp2_with fail
  refine (checkBoth_any _ _ _ _ _).mono ?_
  rintro e w1 ⟨rfl, hb⟩
  obtain ⟨hbc, hbf⟩ := hb.cells
  go_wp2_with fail
  refine (apart_any _ _ _ _ _).mono ?_
  rintro e w2 ⟨rfl, hb2⟩
  clear hbc hbf
  have hb3 := hb.trans hb2
  obtain ⟨hbc, hbf⟩ := hb3.cells
  go_wp2_with fail
  go_ret2
  refine ⟨_, rfl, ⟨_, 1, rfl, by simp [pairs], fun _ => ⟨w2.heap.size, 0, rfl, by simp, ?_⟩⟩, ((((Gr.refl _).alloc _).alloc _).trans hb3).alloc _⟩
  intro i p hp
  cases i with
  | zero => simp [pairs] at hp; subst hp; simp [go_sem]
  | succ i => simp [pairs] at hp

/-- where the round stands -/
def LessAt (w wr : World) (B y n y' n' i : Nat) (v : Value) : Prop :=
  Gr w wr ∧ w.heap.size + 2 ≤ B ∧ Two wr w.heap.size y n ∧ Two wr (w.heap.size + 1) y' n' ∧ Two wr B (lessTo y n y' n' i).2.1 (lessTo y n y' n' i).2.2 ∧
  wr.frozen? ⟨B, 0, none⟩ = false ∧ wr.frozen? ⟨B, 1, none⟩ = false ∧ wr.ownsRow (B + 1) 43 2 v (pairs (lessTo y n y' n' i).1).length (flat (pairs (lessTo y n y' n' i).1))

theorem LessAt.more {w wr w1 : World} {B y n y' n' i : Nat} {v v1 : Value} {o : Obj} {a b : Nat} (h : LessAt w wr B y n y' n' i v) (hg : (wr.alloc o).grownBy w1 v.ownBlock)
    (hown : w1.ownsRow (B + 1) 43 2 v1 ((pairs (lessTo y n y' n' i).1).length + 1) (flat (pairs (lessTo y n y' n' i).1) ++ [.int .i64 a, .int .i64 b])) :
    Gr w w1 ∧ Two w1 w.heap.size y n ∧ Two w1 (w.heap.size + 1) y' n' ∧ Two w1 B (lessTo y n y' n' i).2.1 (lessTo y n y' n' i).2.2 ∧
      w1.frozen? ⟨B, 0, none⟩ = false ∧ w1.frozen? ⟨B, 1, none⟩ = false ∧ w1.ownsRow (B + 1) 43 2 v1 (pairs ((lessTo y n y' n' i).1 ++ [(a, b)])).length (flat (pairs ((lessTo y n y' n' i).1 ++ [(a, b)]))) := by
  obtain ⟨h1, h2, h3, h4, h5, h6, h7, h8⟩ := h
  have hlt := fun k hk => (h8.lt k hk).1
  have hB : B < wr.heap.size := h5.1
  refine ⟨(h1.alloc o).grown hg (fun k hk => by have := hlt k hk; omega), (h3.alloc o).grown hg (fun k hk => by have := hlt k hk; omega), (h4.alloc o).grown hg (fun k hk => by have := hlt k hk; omega),
    (h5.alloc o).grown hg (fun k hk => by have := hlt k hk; omega), ?_, ?_, ?_⟩
  · exact frozen_grown (by simp; omega) (by rw [((Gr.refl wr).alloc o).cells.2 B 0 hB]; exact h6) hg (fun k hk => by have := hlt k hk; omega)
  · exact frozen_grown (by simp; omega) (by rw [((Gr.refl wr).alloc o).cells.2 B 1 hB]; exact h7) hg (fun k hk => by have := hlt k hk; omega)
  · rw [pairs_app, flat_app, List.length_append]
    exact hown
theorem LessAt.yes {w wr w1 : World} {B y n y' n' i : Nat} {v v1 : Value} {o : Obj} {a b : Nat} {u : Int} (h : LessAt w wr B y n y' n' i v) (hg : (wr.alloc o).grownBy w1 v.ownBlock)
    (hown : w1.ownsRow (B + 1) 43 2 v1 ((pairs (lessTo y n y' n' i).1).length + 1) (flat (pairs (lessTo y n y' n' i).1) ++ [.int .i64 a, .int .i64 b]))
    (hs : lessTo y n y' n' (i + 1) = ((lessTo y n y' n' i).1 ++ [(a, b)], u.toNat, (lessTo y n y' n' i).2.2)) (hu : 0 ≤ u) : LessAt w (w1.setCell ⟨B, 0, none⟩ (.int .i64 u)) B y n y' n' (i + 1) v1 := by
  obtain ⟨g1, g3, g4, g5, g6, g7, g8⟩ := h.more hg hown
  have hB := h.2.1
  unfold LessAt
  rw [hs]
  refine ⟨g1.setCell (by simp; omega) _, hB, g3.far (by simp; omega) _, g4.far (by simp; omega) _, ?_, ?_, ?_, ?_⟩
  · have := g5.set0 u
    simpa [Int.toNat_of_nonneg hu] using this
  · simpa [go_sem] using g6
  · simpa [go_sem] using g7
  · exact ownsRow_setCell_below g8 (by simp) _
theorem LessAt.no {w wr w1 : World} {B y n y' n' i : Nat} {v v1 : Value} {o : Obj} {a b : Nat} {u : Int} (h : LessAt w wr B y n y' n' i v) (hg : (wr.alloc o).grownBy w1 v.ownBlock)
    (hown : w1.ownsRow (B + 1) 43 2 v1 ((pairs (lessTo y n y' n' i).1).length + 1) (flat (pairs (lessTo y n y' n' i).1) ++ [.int .i64 a, .int .i64 b]))
    (hs : lessTo y n y' n' (i + 1) = ((lessTo y n y' n' i).1 ++ [(a, b)], (lessTo y n y' n' i).2.1, u.toNat)) (hu : 0 ≤ u) : LessAt w (w1.setCell ⟨B, 1, none⟩ (.int .i64 u)) B y n y' n' (i + 1) v1 := by
  obtain ⟨g1, g3, g4, g5, g6, g7, g8⟩ := h.more hg hown
  have hB := h.2.1
  unfold LessAt
  rw [hs]
  refine ⟨g1.setCell (by simp; omega) _, hB, g3.far (by simp; omega) _, g4.far (by simp; omega) _, ?_, ?_, ?_, ?_⟩
  · have := g5.set1 u
    simpa [Int.toNat_of_nonneg hu] using this
  · simpa [go_sem] using g6
  · simpa [go_sem] using g7
  · exact ownsRow_setCell_below g8 (by simp) _

theorem cube_info : (Try.prog.info? 43).map (fun i => (i.zero, i.size, i.bytes)) = some (some (.agg #[.int .i64 0, .int .i64 0]), 2, 16) := by kernel_rfl

set_option maxHeartbeats 1000000 in
theorem less_ok (y n y' n' : Nat) (w : World) (h : Vld y n) (h' : Vld y' n') (ha : apartB y n y' n' = false) :
    Calls Try.prog 30 #[.agg #[.int .i64 y, .int .i64 n], .agg #[.int .i64 y', .int .i64 n']] w fun e w' =>
      ∃ v, e = .returned (.tuple #[v, .int .i64 0]) ∧ Rd2 w' v (pairs (lessTo y n y' n' 4).1) ∧ Gr w w' := by
  have hc := h.chk2 h'
  go_enter Try.func30, Try.ntmps30
  go_wp2_with fail
  refine (checkBoth_any _ _ _ _ _).mono ?_
  rintro e w1 ⟨rfl, hb⟩
  obtain ⟨hbc, hbf⟩ := hb.cells
  go_wp2_with fail
  refine (apart_any _ _ _ _ _).mono ?_
  rintro e w2 ⟨rfl, hb2⟩
  clear hbc hbf
  have hb3 := hb.trans hb2
  obtain ⟨hbc, hbf⟩ := hb3.cells
  go_wp2_with fail
  obtain ⟨i0, hi0, hz0, hz1, hz2⟩ := info_parts cube_info
  have hst : LessAt w (w2.alloc (.cells #[.int .i64 y, .int .i64 n] 43)) w2.heap.size y n y' n' 0 (.slice none 0 0) := by
    have hz := hb3.le
    simp at hz
    refine ⟨((((Gr.refl _).alloc _).alloc _).trans hb3).alloc _, by omega, ?_, ?_, Two.new _ _ _ _, by simp [go_sem], by simp [go_sem], World.ownsRow_nil _ _ _ _⟩
    · exact (((Two.new w y n 43).alloc _).gr hb3).alloc _
    · have := (Two.new (w.alloc (.cells #[.int .i64 y, .int .i64 n] 43)) y' n' 43).gr hb3
      simp only [World.size_alloc] at this
      exact this.alloc _
  clear hbc hbf
  generalize w2.alloc (.cells #[.int .i64 y, .int .i64 n] 43) = w3 at *
  generalize w2.heap.size = B at *
  go_loopw [7, 23] (fun v i wr => ∃ k : Nat, k ≤ 4 ∧ i = .int .i64 k ∧ LessAt w wr B y n y' n' k v) (fun _ i _ => 4 - (intOf i).toNat)
  case atStart => exact ⟨0, by omega, rfl, hst⟩
  case round =>
    obtain ⟨k, hk, rfl, hat⟩ := hrel
    have HA := Lib.hid hat
    obtain ⟨q1, q2, ⟨x1, x2, x3⟩, ⟨y1, y2, y3⟩, ⟨z1, z2, z3⟩, q6, q7, q8⟩ := hat
    have HO := Lib.hid q8
    clear hst q8
    obtain ⟨b1, b2, b3⟩ := lessTo_ok y n y' n' h.1 h.2.1 k hk
    by_cases hlt : k < 4
    · have ht := tag16 k hlt
      cases hC : cutB y' y k
      · have t1 : (bits .and .i64 (bits .andNot .i64 (y' : Int) (y : Int)) (wrap64 (2 ^ k)) != 0) = false := by
          rw [ht.1, cut16 y' h'.1 y h.1 k hlt]; exact hC
        cases hD : cutB n' n k
        · have t2 : (bits .and .i64 (bits .andNot .i64 (n' : Int) (n : Int)) (wrap64 (2 ^ k)) != 0) = false := by
            rw [ht.1, cut16 n' h'.2.1 n h.2.1 k hlt]; exact hD
          clear ht
          go_wp2
          go_roundw
          case rel =>
            refine ⟨k + 1, by omega, by go_num, ?_⟩
            have e : lessTo y n y' n' (k + 1) = lessTo y n y' n' k := by simp [lessTo, hC, hD]
            have := HA.out
            unfold LessAt at this ⊢
            rw [e]
            exact this
          case measure => simp [intOf]; omega
        · have t2 : (bits .and .i64 (bits .andNot .i64 (n' : Int) (n : Int)) (wrap64 (2 ^ k)) != 0) = true := by
            rw [ht.1, cut16 n' h'.2.1 n h.2.1 k hlt]; exact hD
          have hor : bits .or .i64 ((lessTo y n y' n' k).2.1 : Int) (wrap64 (2 ^ k)) = ((Nat.lor (lessTo y n y' n' k).2.1 (2 ^ k) : Nat) : Int) := by rw [ht.1, or16 _ b1 _ ht.2]
          have hor2 : bits .or .i64 ((lessTo y n y' n' k).2.2 : Int) (wrap64 (2 ^ k)) = ((Nat.lor (lessTo y n y' n' k).2.2 (2 ^ k) : Nat) : Int) := by rw [ht.1, or16 _ b2 _ ht.2]
          have hs : Hid (lessTo y n y' n' (k + 1) = ((lessTo y n y' n' k).1 ++ [(Nat.lor (lessTo y n y' n' k).2.1 (2 ^ k), (lessTo y n y' n' k).2.2)], (lessTo y n y' n' k).2.1, Nat.lor (lessTo y n y' n' k).2.2 (2 ^ k))) := by
            simp [Hid, lessTo, hC, hD]
          have hlen : (pairs (lessTo y n y' n' k).1).length ≤ 4 := by simp [pairs]; omega
          clear ht b1 b2 b3
          generalize Nat.lor (lessTo y n y' n' k).2.1 (2 ^ k) = oy at *
          generalize Nat.lor (lessTo y n y' n' k).2.2 (2 ^ k) = on at *
          go_wp2_with (at_builtin; refine wpList_append_own _ rfl (.tmp 61) (.tmp 69) 48 rfl (B + 1) 43 i0 _ 2 16 Try.underlying48 hi0 hz0 hz1 hz2 rfl (by omega) _ _ _ rfl (HO.out.alloc _) ⟨wr.heap.size, 0, none⟩ 1 1 [.int .i64 oy, .int .i64 (lessTo y n y' n' k).2.2] rfl rfl (new2 _ _ _ _) (one2 _ _) (by simp only [maxLen]; omega) (by omega) (by simp; omega) ?_; intro v1 w1 hown hg _; obtain ⟨-, -, -, ⟨r1, r2, r3⟩, p6, p7, -⟩ := HA.out.more hg hown)
          go_roundw
          case rel => exact ⟨k + 1, by omega, by go_num, HA.out.no hg hown (by rw [Int.toNat_natCast]; exact hs.out) (by omega)⟩
          case measure => simp [intOf]; omega
      · have t1 : (bits .and .i64 (bits .andNot .i64 (y' : Int) (y : Int)) (wrap64 (2 ^ k)) != 0) = true := by
          rw [ht.1, cut16 y' h'.1 y h.1 k hlt]; exact hC
        have hor : bits .or .i64 ((lessTo y n y' n' k).2.1 : Int) (wrap64 (2 ^ k)) = ((Nat.lor (lessTo y n y' n' k).2.1 (2 ^ k) : Nat) : Int) := by rw [ht.1, or16 _ b1 _ ht.2]
        have hor2 : bits .or .i64 ((lessTo y n y' n' k).2.2 : Int) (wrap64 (2 ^ k)) = ((Nat.lor (lessTo y n y' n' k).2.2 (2 ^ k) : Nat) : Int) := by rw [ht.1, or16 _ b2 _ ht.2]
        have hs : Hid (lessTo y n y' n' (k + 1) = ((lessTo y n y' n' k).1 ++ [((lessTo y n y' n' k).2.1, Nat.lor (lessTo y n y' n' k).2.2 (2 ^ k))], Nat.lor (lessTo y n y' n' k).2.1 (2 ^ k), (lessTo y n y' n' k).2.2)) := by
          simp [Hid, lessTo, hC]
        have hlen : (pairs (lessTo y n y' n' k).1).length ≤ 4 := by simp [pairs]; omega
        clear ht b1 b2 b3
        generalize Nat.lor (lessTo y n y' n' k).2.1 (2 ^ k) = oy at *
        generalize Nat.lor (lessTo y n y' n' k).2.2 (2 ^ k) = on at *
        go_wp2_with (at_builtin; refine wpList_append_own _ rfl (.tmp 37) (.tmp 45) 48 rfl (B + 1) 43 i0 _ 2 16 Try.underlying48 hi0 hz0 hz1 hz2 rfl (by omega) _ _ _ rfl (HO.out.alloc _) ⟨wr.heap.size, 0, none⟩ 1 1 [.int .i64 (lessTo y n y' n' k).2.1, .int .i64 on] rfl rfl (new2 _ _ _ _) (one2 _ _) (by simp only [maxLen]; omega) (by omega) (by simp; omega) ?_; intro v1 w1 hown hg _; obtain ⟨-, -, -, ⟨r1, r2, r3⟩, p6, p7, -⟩ := HA.out.more hg hown)
        go_roundw
        case rel => exact ⟨k + 1, by omega, by go_num, HA.out.yes hg hown (by rw [Int.toNat_natCast]; exact hs.out) (by omega)⟩
        case measure => simp [intOf]; omega
    · obtain rfl : k = 4 := by omega
      go_wp2
      go_ret2
      exact ⟨_, rfl, Rd2.own HO.out, q1⟩
end Go.Proofs.Ytkdhfpdpbledcaa
