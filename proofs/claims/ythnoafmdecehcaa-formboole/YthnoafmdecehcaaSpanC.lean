/- The contract of package span's list. -/
import Derived.Test.YthnoafmdecehcaaSpanB
namespace Rm
open Go Go.RowKit
theorem own_form {w : World} {base : Nat} {e : TypeId} {size : Nat} {v : Value} {n : Nat} {xs : List Value} (h : w.ownsRow base e size v n xs) : ∃ a c, v = .slice a n c ∧ n ≤ c := by
  rcases h.2 with ⟨rfl, rfl⟩ | ⟨g, cap, _, rfl, _, _, h, _⟩
  · exact ⟨_, _, rfl, Nat.le_refl _⟩
  · exact ⟨_, _, rfl, h⟩
theorem own_pos {w : World} {base : Nat} {e : TypeId} {size : Nat} {v : Value} {n : Nat} {xs : List Value} (h : w.ownsRow base e size v n xs) (hn : 0 < n) : ∃ g cap, v = .slice (some ⟨g, 0, none⟩) n cap ∧ base ≤ g ∧ g < w.heap.size ∧ n ≤ cap := by
  rcases h.2 with ⟨rfl, rfl⟩ | ⟨g, cap, cur, rfl, hb, hg, hc, _⟩
  · omega
  · refine ⟨g, cap, rfl, hb, ?_, hc⟩
    rcases Nat.lt_or_ge g w.heap.size with h | h
    · exact h
    · rw [Array.getElem?_eq_none h] at hg; cases hg
theorem flat_set (l : List (Int × Int)) (a b b' : Int) : (flat (l ++ [(a, b)])).set (l.length * 2 + 1) (.int .i64 b') = flat (l ++ [(a, b')]) := by
  rw [flat_app, flat_app, ← flat_len]
  rw [List.set_append_right _ _ (by omega)]
  congr 1
  simp [flat]
theorem listTo_len (s : Nat → Bool) (n : Nat) (h : n ≤ 32) : (listTo s n).length ≤ 16 := (listTo_ok s n h).1.len16
theorem listTo_yes {s : Nat → Bool} {n : Nat} (h : s n = true) : listTo s (n + 1) = push (listTo s n) n := by simp [listTo, h]
theorem listTo_no {s : Nat → Bool} {n : Nat} (h : s n = false) : listTo s (n + 1) = listTo s n := by simp [listTo, h]
end Rm
namespace Go.Proofs.Ythnoafmdecehcaa
open Go.RowKit Rm
set_option linter.unusedVariables false
theorem span_info : (Try.prog.info? 53).map (fun i => (i.zero, i.size, i.bytes)) = some (some (.agg #[.int .i64 0, .int .i64 0]), 2, 16) := by kernel_rfl

def ListAt (w wr : World) (l : List (Nat × Nat)) (v : Value) : Prop := Gr w wr ∧ wr.ownsRow w.heap.size 53 2 v (pairs l).length (flat (pairs l))

set_option maxHeartbeats 1000000 in
set_option maxRecDepth 100000 in
theorem list_any (m : Nat) (w : World) (hm : m < 2 ^ 32) :
    Calls Try.prog 75 #[.int .u32 m] w fun e w' => ∃ v, e = .returned v ∧ ListAt w w' (canon m) v := by
  obtain ⟨i0, hi0, hz0, hz1, hz2⟩ := info_parts span_info
  unfold canon
  have HM := Lib.hid hm
  clear hm
  go_enter Try.func75, Try.ntmps75
  go_wp2
  go_loopw [3, 6] (fun v i wr => ∃ n : Nat, n ≤ 32 ∧ i = .int .i64 n ∧ ListAt w wr (listTo m.testBit n) v) (fun _ i _ => 32 - (intOf i).toNat)
  case atStart => exact ⟨0, by omega, rfl, Gr.refl _, World.ownsRow_nil _ _ _ _⟩
  case round =>
    obtain ⟨n, hn, rfl, hg, hown⟩ := hrel
    have hlen := listTo_len m.testBit n hn
    by_cases hlt : n < 32
    · cases hbit : m.testBit n
      · have HL := Lib.hid (listTo_no hbit)
        have HO := Lib.hid hown
        clear hown
        go_wp2_with fail
        refine (shas_any m n _ HM.out hlt).mono ?_
        rintro e w1 ⟨rfl, rfl⟩
        go_wp2_with fail
        go_roundw
        case rel => exact ⟨n + 1, by omega, by go_num, hg, by rw [HL.out]; exact HO.out⟩
        case measure => simp [intOf]; omega
      · have HL := Lib.hid (listTo_yes hbit)
        generalize listTo m.testBit n = l at *
        have hlen2 : (pairs l).length ≤ 16 := by rw [pairs_len]; exact hlen
        rcases List.eq_nil_or_concat l with rfl | ⟨l, ⟨f, t⟩, rfl⟩
        · obtain ⟨a, c, rfl, hc⟩ := own_form hown
          have HO := Lib.hid hown
          clear hown hc
          have HP : Hid (flat (pairs (listTo m.testBit (n + 1))) = flat (pairs []) ++ [.int .i64 (n : Int), .int .i64 ((n : Int) + 1)] ∧ (pairs (listTo m.testBit (n + 1))).length = (pairs []).length + 1) := by
            rw [HL.out, push_nil]
            exact ⟨by simp [pairs, flat], by simp [pairs]⟩
          clear HL
          go_wp2_with fail
          refine (shas_any m n _ HM.out hlt).mono ?_
          rintro e w1 ⟨rfl, rfl⟩
          go_wp2_with (at_builtin; refine wpList_append_own _ rfl (.tmp 36) (.tmp 41) 54 rfl w.heap.size 53 i0 _ 2 16 Try.underlying54 hi0 hz0 hz1 hz2 rfl (by omega) _ _ _ rfl (HO.out.alloc _) ⟨wr.heap.size, 0, none⟩ 1 1 [.int .i64 (n : Int), .int .i64 ((n : Int) + 1)] rfl rfl (new2 _ _ _ _) (one2 _ _) (by simp only [maxLen]; omega) (by omega) (by have := hg.le; simp; omega) ?_; intro v1 w1 hown hg1 _)
          go_roundw
          case rel => exact ⟨n + 1, by omega, by go_num, (hg.alloc _).grown hg1 (fun k hk => (HO.out.lt k hk).1), by rw [HP.out.1, HP.out.2]; exact hown⟩
          case measure => simp [intOf]; omega
        · rw [List.concat_eq_append] at *
          obtain ⟨g, cap, rfl, hbg, hgl, hcc⟩ := own_pos hown (by simp [pairs])
          have hlen3 : (pairs (l ++ [(f, t)])).length = l.length + 1 := by simp [pairs]
          have HO : Hid (wr.ownsRow w.heap.size 53 2 (.slice (some ⟨g, 0, none⟩) (l.length + 1) cap) (l.length + 1) (flat (pairs (l ++ [(f, t)])))) := by rw [← hlen3]; exact hown
          have hcell : wr.cell? ⟨g, l.length * 2 + 1, none⟩ = some (.int .i64 t) := by
            rw [HO.out.cellAt _ (by omega), pairs_app, flat_app, List.getElem?_append_right (by rw [flat_len, pairs_len]; omega), flat_len, pairs_len]
            simp [flat]
          have hfro := HO.out.frozenAt (l.length * 2 + 1)
          have hl16 : (l.length : Int) ≤ 15 := by simp at hlen; omega
          have hpf := HL.out
          rw [push_snoc] at hpf
          rw [hlen3]
          rw [hlen3] at hlen2 hcc
          clear hown hlen hlen3 HL
          by_cases htn : t = n
          · subst htn
            rw [if_pos rfl] at hpf
            have HP : Hid (flat (pairs (listTo m.testBit (t + 1))) = (flat (pairs (l ++ [(f, t)]))).set (l.length * 2 + 1) (.int .i64 ((t : Int) + 1)) ∧ (pairs (listTo m.testBit (t + 1))).length = l.length + 1) := by
              rw [hpf, pairs_app, pairs_app, ← pairs_len l, flat_set]
              exact ⟨rfl, by simp⟩
            clear hpf
            go_wp2_with fail
            refine (shas_any m t _ HM.out hlt).mono ?_
            rintro e w1 ⟨rfl, rfl⟩
            go_wp2_with fail
            go_roundw
            case rel => exact ⟨t + 1, by omega, by go_num, hg.setCell hbg _, by rw [HP.out.1, HP.out.2]; exact (HO.out.stored _ _).1⟩
            case measure => simp [intOf]; omega
          · rw [if_neg htn] at hpf
            have HP : Hid (flat (pairs (listTo m.testBit (n + 1))) = flat (pairs (l ++ [(f, t)])) ++ [.int .i64 (n : Int), .int .i64 ((n : Int) + 1)] ∧ (pairs (listTo m.testBit (n + 1))).length = l.length + 1 + 1) := by
              rw [hpf, pairs_app (l ++ [(f, t)]), flat_app]
              exact ⟨by simp [flat], by simp [pairs]⟩
            have htn' : ((t : Int) == (n : Int)) = false := by simp; omega
            clear hpf htn
            go_wp2_with fail
            refine (shas_any m n _ HM.out hlt).mono ?_
            rintro e w1 ⟨rfl, rfl⟩
            go_wp2_with (at_builtin; refine wpList_append_own _ rfl (.tmp 36) (.tmp 41) 54 rfl w.heap.size 53 i0 _ 2 16 Try.underlying54 hi0 hz0 hz1 hz2 rfl (by omega) _ _ _ rfl (HO.out.alloc _) ⟨wr.heap.size, 0, none⟩ 1 1 [.int .i64 (n : Int), .int .i64 ((n : Int) + 1)] rfl rfl (new2 _ _ _ _) (one2 _ _) (by simp only [maxLen]; omega) (by omega) (by have := hg.le; simp; omega) ?_; intro v1 w1 hown hg1 _)
            go_roundw
            case rel => exact ⟨n + 1, by omega, by go_num, (hg.alloc _).grown hg1 (fun k hk => (HO.out.lt k hk).1), by rw [HP.out.1, HP.out.2]; exact hown⟩
            case measure => simp [intOf]; omega
    · obtain rfl : n = 32 := by omega
      go_wp2_with fail
      go_ret
      exact ⟨_, rfl, hg, hown⟩
end Go.Proofs.Ythnoafmdecehcaa
