/- Joined: SpanA, SpanB, SpanC. -/
import Derived.Test.YtghjfakellaecaaProg
import Derived.Test.YtghjfakellaecaaPure
import Derived.WalkKit
import Derived.WalkSpells
import Derived.WalkLawsBesides
import Derived.Deep.QuietTactic
import Derived.BigQuiet
import Derived.Lib.Hide
import Derived.LoopTactic
import Derived.RegionTactic
import Derived.Laws.BitsAllLaws
/- The contracts of package span's small functions: isNum, has, Check, checkBoth. -/
namespace Rm
open Go Go.RowKit
/-- is it a number of 0 to 31? -/
def numB (x : Int) : Bool := decide (0 ≤ x) && decide (x < 32)
theorem u32_pow (n : Nat) (h : n < 32) : IntKind.u32.wrap (2 ^ n) = ((2 ^ n : Nat) : Int) := by
  rw [IntKind.wrap_u32']
  have h1 : (2 : Nat) ^ n < 2 ^ 32 := Nat.pow_lt_pow_right (by omega) h
  have h2 : ((2 ^ n : Nat) : Int) = (2 : Int) ^ n := by simp
  rw [← h2]
  generalize 2 ^ n = x at *
  omega
theorem and_pow_bne (m n : Nat) : (m &&& 2 ^ n != 0) = m.testBit n := by
  cases h : m.testBit n
  · have : m &&& 2 ^ n = 0 := by
      apply Nat.eq_of_testBit_eq
      intro i
      rw [Nat.testBit_and, Nat.testBit_two_pow, Nat.zero_testBit]
      by_cases e : n = i
      · subst e; simp [h]
      · simp [e]
    simp [this]
  · have : m &&& 2 ^ n ≠ 0 := by
      intro e
      have h2 : (m &&& 2 ^ n).testBit n = true := by rw [Nat.testBit_and, h, Nat.testBit_two_pow]; simp
      rw [e] at h2
      simp at h2
    simpa using this
theorem bit_eq (m n : Nat) (hm : m < 2 ^ 32) (hn : n < 32) : (bits .and .u32 (m : Int) (IntKind.u32.wrap (2 ^ n)) != 0) = m.testBit n := by
  rw [u32_pow n hn, u32_and_nat m (2 ^ n) hm (Nat.pow_lt_pow_right (by omega) hn), ← and_pow_bne]
  rw [Bool.eq_iff_iff]
  simp only [bne_iff_ne, ne_eq]
  omega
/-- what Check of a set answers -/
def chkGo : Int → List (Int × Int) → Int
  | _, [] => 0
  | last, p :: r => if p.1 < 0 ∨ 32 < p.2 ∨ p.2 ≤ p.1 then 1 else if p.1 ≤ last then 3 else chkGo p.2 r
def chkS (l : List (Int × Int)) : Int := if 16 < l.length then 2 else chkGo (-1) l
/-- the end of the interval ahead of the k-th one -/
def lastAt (l : List (Int × Int)) (k : Nat) : Int := match k with | 0 => -1 | k + 1 => (l.getD k (0, 0)).2
theorem drop_at {l : List (Int × Int)} {k : Nat} {p : Int × Int} (h : l[k]? = some p) : l.drop k = p :: l.drop (k + 1) := by
  obtain ⟨hk, e⟩ := List.getElem?_eq_some_iff.1 h
  rw [List.drop_eq_getElem_cons hk, e]
theorem last_at {l : List (Int × Int)} {k : Nat} {p : Int × Int} (h : l[k]? = some p) : lastAt l (k + 1) = p.2 := by simp [lastAt, List.getD, h]
end Rm
namespace Go.Proofs.Ytghjfakellaecaa
open Go.RowKit Rm
set_option linter.unusedVariables false

set_option maxHeartbeats 400000 in
set_option maxRecDepth 100000 in
theorem isNum_any (x : Int) (w : World) :
    Calls Try.prog 148 #[.int .i64 x] w fun e w' => e = .returned (.bool (numB x)) ∧ w = w' := by
  by_cases h0 : 0 ≤ x
  · by_cases h1 : x < 32
    · have ht : numB x = true := by simp [numB, h0, h1]
      rw [ht]
      go_enter Try.func148, Try.ntmps148
      go_wp2
      go_ret
      exact ⟨rfl, rfl⟩
    · have ht : numB x = false := by simp [numB, h1]
      rw [ht]
      go_enter Try.func148, Try.ntmps148
      go_wp2
      go_ret
      exact ⟨rfl, rfl⟩
  · have ht : numB x = false := by simp [numB, h0]
    rw [ht]
    go_enter Try.func148, Try.ntmps148
    go_wp2
    go_ret
    exact ⟨rfl, rfl⟩

set_option maxHeartbeats 400000 in
set_option maxRecDepth 100000 in
theorem shas_any (m n : Nat) (w : World) (hm : m < 2 ^ 32) (hn : n < 32) :
    Calls Try.prog 152 #[.int .u32 m, .int .i64 n] w fun e w' => e = .returned (.bool (m.testBit n)) ∧ w = w' := by
  have h1 : ((n : Nat) : Int) < 32 := by omega
  have HB := Lib.hid (bit_eq m n hm hn)
  clear hm
  go_enter Try.func152, Try.ntmps152
  go_wp2
  go_ret
  exact ⟨by rw [← HB.out]; rfl, rfl⟩

set_option maxHeartbeats 1000000 in
set_option maxRecDepth 100000 in
theorem scheck_any (v : Value) (l : List (Int × Int)) (w : World) (hr : Rd2 w v l) :
    Calls Try.prog 77 #[v] w fun e w' => e = .returned (.int .i64 (chkS l)) ∧ Gr w w' := by
  obtain ⟨a, cp, rfl, hcp, hx⟩ := hr
  by_cases h16 : 16 < l.length
  · have e : chkS l = 2 := by simp [chkS, h16]
    rw [e]
    have hz : (16 : Int) < (l.length : Int) := by omega
    go_enter Try.func77, Try.ntmps77
    go_wp2
    go_ret
    exact ⟨rfl, Gr.refl _⟩
  · have e : chkS l = chkGo (-1) l := by simp [chkS, h16]
    rw [e]
    clear e
    have hz : ¬ (16 : Int) < (l.length : Int) := by omega
    have HX := Lib.hid hx
    clear hx
    go_enter Try.func77, Try.ntmps77
    go_wp2
    go_loopw [10] (fun i wr => ∃ k : Nat, k ≤ l.length ∧ i = .int .i64 k ∧ Hid (chkGo (-1) l = chkGo (lastAt l k) (l.drop k)) ∧ Gr w wr) (fun i _ => l.length - (intOf i).toNat)
    case atStart => exact ⟨0, by omega, rfl, rfl, Gr.refl _⟩
    case round =>
      obtain ⟨k, hk, rfl, hh, hg⟩ := hrel
      by_cases hlt : k < l.length
      · obtain ⟨⟨f, t⟩, hp⟩ : ∃ p, l[k]? = some p := ⟨_, List.getElem?_eq_getElem hlt⟩
        obtain ⟨b, off, rfl, hb, hcell⟩ := HX.out (by intro e; rw [e] at hlt; simp at hlt)
        obtain ⟨c1, c2⟩ := hcell k _ hp
        rw [← hg.cells.1 b _ hb] at c1 c2
        simp only at c1 c2
        have hbr : b < wr.heap.size := Nat.lt_of_lt_of_le hb hg.le
        have HH : Hid (chkGo (-1) l = if f < 0 ∨ 32 < t ∨ t ≤ f then 1 else if f ≤ lastAt l k then 3 else chkGo t (l.drop (k + 1))) := by
          rw [hh.out, drop_at hp]; rfl
        clear hh
        have hk16 : (k : Int) ≤ 16 := by omega
        by_cases hbad : f < 0 ∨ 32 < t ∨ t ≤ f
        · have E1 : Hid (chkGo (-1) l = 1) := by rw [HH.out, if_pos hbad]; rfl
          clear hcell HH
          by_cases q1 : f < 0
          · go_wp2
            go_ret
            exact ⟨by rw [E1.out]; rfl, hg.alloc _⟩
          · by_cases q2 : 32 < t
            · go_wp2
              go_ret
              exact ⟨by rw [E1.out]; rfl, hg.alloc _⟩
            · have q3 : t ≤ f := by omega
              go_wp2
              go_ret
              exact ⟨by rw [E1.out]; rfl, hg.alloc _⟩
        · have q1 : ¬ f < 0 := by omega
          have q2 : ¬ 32 < t := by omega
          have q3 : ¬ t ≤ f := by omega
          have e1 : Hid (chkGo (-1) l = if f ≤ lastAt l k then 3 else chkGo t (l.drop (k + 1))) := by rw [HH.out, if_neg hbad]; rfl
          have HC := Lib.hid hcell
          clear HH hbad hcell
          cases k with
          | zero =>
            have e2 : Hid (chkGo (-1) l = chkGo (lastAt l (0 + 1)) (l.drop (0 + 1))) := by
              have := e1.out
              rw [if_neg (by simp [lastAt]; omega)] at this
              rw [last_at hp]
              exact this
            simp only [Nat.zero_mul, Nat.add_zero] at c1 c2
            clear e1 hk16
            go_wp2
            go_quiet (fail)
            go_wp2
            go_roundw
            case rel => exact ⟨0 + 1, by omega, by go_num, e2, (hg.alloc _).drewN _⟩
            case measure => simp [intOf]; omega
          | succ k =>
            obtain ⟨⟨f0, t0⟩, hp0⟩ : ∃ p, l[k]? = some p := ⟨_, List.getElem?_eq_getElem (by omega)⟩
            have d2 : w.cell? ⟨b, off + k * 2 + 1, none⟩ = some (.int .i64 t0) := (HC.out k _ hp0).2
            rw [← hg.cells.1 b _ hb] at d2
            have hl0 := last_at hp0
            simp only at hl0
            have e2 : Hid (chkGo (-1) l = if f ≤ t0 then 3 else chkGo (lastAt l (k + 1 + 1)) (l.drop (k + 1 + 1))) := by
              rw [last_at hp, ← hl0]; exact e1
            clear e1 hl0
            by_cases q4 : f ≤ t0
            · have E1 : Hid (chkGo (-1) l = 3) := by rw [e2.out, if_pos q4]; rfl
              clear e2
              go_wp2
              go_quiet (fail)
              go_wp2
              go_ret
              exact ⟨by rw [E1.out]; rfl, (hg.alloc _).drewN _⟩
            · have E1 : Hid (chkGo (-1) l = chkGo (lastAt l (k + 1 + 1)) (l.drop (k + 1 + 1))) := by rw [e2.out, if_neg q4]; rfl
              clear e2
              go_wp2
              go_quiet (fail)
              go_wp2
              go_roundw
              case rel => exact ⟨k + 1 + 1, by omega, by go_num, E1, (hg.alloc _).drewN _⟩
              case measure => simp [intOf]; omega
      · obtain rfl : k = l.length := by omega
        have E1 : Hid (chkGo (-1) l = 0) := by rw [hh.out, List.drop_length]; rfl
        clear hh
        go_wp2
        go_ret
        exact ⟨by rw [E1.out]; rfl, hg⟩
end Go.Proofs.Ytghjfakellaecaa
/- The contracts of package span's maskOf and list. -/
namespace Rm
open Go Go.RowKit
theorem or_eq (m n : Nat) (hm : m < 2 ^ 32) (hn : n < 32) : bits .or .u32 (m : Int) (IntKind.u32.wrap (2 ^ n)) = ((m ||| 2 ^ n : Nat) : Int) := by
  rw [u32_pow n hn, u32_or_nat m (2 ^ n) hm (Nat.pow_lt_pow_right (by omega) hn)]
theorem maskL_take {l : List (Nat × Nat)} {k : Nat} {p : Nat × Nat} (h : l[k]? = some p) : maskL (l.take (k + 1)) = orTo (maskL (l.take k)) p.1 (p.2 - p.1) := by
  obtain ⟨hk, e⟩ := List.getElem?_eq_some_iff.1 h
  rw [List.take_succ_eq_append_getElem hk, e, maskL_snoc]
theorem orTo_step (m f n : Nat) (h : f ≤ n) : orTo m f (n + 1 - f) = orTo m f (n - f) ||| 2 ^ n := by
  have e : n + 1 - f = (n - f) + 1 := by omega
  rw [e]
  show orTo m f (n - f) ||| 2 ^ (f + (n - f)) = _
  rw [show f + (n - f) = n from by omega]
theorem VF.pre {lo : Nat} {l r : List (Nat × Nat)} (h : VF lo (l ++ r)) : VF lo l := by
  induction l generalizing lo with
  | nil => trivial
  | cons p l ih => exact ⟨h.1, h.2.1, h.2.2.1, ih h.2.2.2⟩
end Rm
namespace Go.Proofs.Ytghjfakellaecaa
open Go.RowKit Rm
set_option linter.unusedVariables false

end Go.Proofs.Ytghjfakellaecaa
/- The contract of package span's list. -/
namespace Rm
open Go Go.RowKit
theorem own_form {w : World} {base : Nat} {e : TypeId} {size : Nat} {v : Value} {n : Nat} {xs : List Value} (h : w.ownsRow base e size v n xs) : ∃ a c, v = .slice a n c ∧ n ≤ c := by
  rcases h.2 with ⟨rfl, rfl⟩ | ⟨g, cap, _, rfl, _, _, h, _⟩
  · exact ⟨_, _, rfl, Nat.le_refl _⟩
  · exact ⟨_, _, rfl, h⟩
theorem own_pos {w : World} {base : Nat} {e : TypeId} {size : Nat} {v : Value} {n : Nat} {xs : List Value} (h : w.ownsRow base e size v n xs) (hn : 0 < n) : ∃ g cap, v = .slice (some ⟨g, 0, none⟩) n cap ∧ base ≤ g ∧ g < w.heap.size ∧ n ≤ cap := by
  rcases h.2 with ⟨rfl, rfl⟩ | ⟨g, cap, cur, rfl, hb, hg, hc, _⟩
  · omega
  · refine ⟨g, cap, rfl, hb, ?_, hc⟩
    rcases Nat.lt_or_ge g w.heap.size with h | h
    · exact h
    · rw [Array.getElem?_eq_none h] at hg; cases hg
theorem flat_set (l : List (Int × Int)) (a b b' : Int) : (flat (l ++ [(a, b)])).set (l.length * 2 + 1) (.int .i64 b') = flat (l ++ [(a, b')]) := by
  rw [flat_app, flat_app, ← flat_len]
  rw [List.set_append_right _ _ (by omega)]
  congr 1
  simp [flat]
theorem listTo_len (s : Nat → Bool) (n : Nat) (h : n ≤ 32) : (listTo s n).length ≤ 16 := (listTo_ok s n h).1.len16
theorem listTo_yes {s : Nat → Bool} {n : Nat} (h : s n = true) : listTo s (n + 1) = push (listTo s n) n := by simp [listTo, h]
theorem listTo_no {s : Nat → Bool} {n : Nat} (h : s n = false) : listTo s (n + 1) = listTo s n := by simp [listTo, h]
end Rm
namespace Go.Proofs.Ytghjfakellaecaa
open Go.RowKit Rm
set_option linter.unusedVariables false
theorem span_info : (Try.prog.info? 135).map (fun i => (i.zero, i.size, i.bytes)) = some (some (.agg #[.int .i64 0, .int .i64 0]), 2, 16) := by kernel_rfl

def ListAt (w wr : World) (l : List (Nat × Nat)) (v : Value) : Prop := Gr w wr ∧ wr.ownsRow w.heap.size 135 2 v (pairs l).length (flat (pairs l))

set_option maxHeartbeats 1000000 in
set_option maxRecDepth 100000 in
theorem list_any (m : Nat) (w : World) (hm : m < 2 ^ 32) :
    Calls Try.prog 149 #[.int .u32 m] w fun e w' => ∃ v, e = .returned v ∧ ListAt w w' (canon m) v := by
  obtain ⟨i0, hi0, hz0, hz1, hz2⟩ := info_parts span_info
  unfold canon
  have HM := Lib.hid hm
  clear hm
  go_enter Try.func149, Try.ntmps149
  go_wp2
  go_loopw [3, 6] (fun v i wr => ∃ n : Nat, n ≤ 32 ∧ i = .int .i64 n ∧ ListAt w wr (listTo m.testBit n) v) (fun _ i _ => 32 - (intOf i).toNat)
  case atStart => exact ⟨0, by omega, rfl, Gr.refl _, World.ownsRow_nil _ _ _ _⟩
  case round =>
    obtain ⟨n, hn, rfl, hg, hown⟩ := hrel
    have hlen := listTo_len m.testBit n hn
    by_cases hlt : n < 32
    · cases hbit : m.testBit n
      · have HL := Lib.hid (listTo_no hbit)
        have HO := Lib.hid hown
        clear hown
        go_wp2_with fail
        refine (shas_any m n _ HM.out hlt).mono ?_
        rintro e w1 ⟨rfl, rfl⟩
        go_wp2_with fail
        go_roundw
        case rel => exact ⟨n + 1, by omega, by go_num, hg, by rw [HL.out]; exact HO.out⟩
        case measure => simp [intOf]; omega
      · have HL := Lib.hid (listTo_yes hbit)
        generalize listTo m.testBit n = l at *
        have hlen2 : (pairs l).length ≤ 16 := by rw [pairs_len]; exact hlen
        rcases List.eq_nil_or_concat l with rfl | ⟨l, ⟨f, t⟩, rfl⟩
        · obtain ⟨a, c, rfl, hc⟩ := own_form hown
          have HO := Lib.hid hown
          clear hown hc
          have HP : Hid (flat (pairs (listTo m.testBit (n + 1))) = flat (pairs []) ++ [.int .i64 (n : Int), .int .i64 ((n : Int) + 1)] ∧ (pairs (listTo m.testBit (n + 1))).length = (pairs []).length + 1) := by
            rw [HL.out, push_nil]
            exact ⟨by simp [pairs, flat], by simp [pairs]⟩
          clear HL
          go_wp2_with fail
          refine (shas_any m n _ HM.out hlt).mono ?_
          rintro e w1 ⟨rfl, rfl⟩
          go_wp2_with (at_builtin; refine wpList_append_own _ rfl (.tmp 36) (.tmp 41) 122 rfl w.heap.size 135 i0 _ 2 16 Try.underlying122 hi0 hz0 hz1 hz2 rfl (by omega) _ _ _ rfl (HO.out.alloc _) ⟨wr.heap.size, 0, none⟩ 1 1 [.int .i64 (n : Int), .int .i64 ((n : Int) + 1)] rfl rfl (new2 _ _ _ _) (one2 _ _) (by simp only [maxLen]; omega) (by omega) (by have := hg.le; simp; omega) ?_; intro v1 w1 hown hg1 _)
          go_roundw
          case rel => exact ⟨n + 1, by omega, by go_num, (hg.alloc _).grown hg1 (fun k hk => (HO.out.lt k hk).1), by rw [HP.out.1, HP.out.2]; exact hown⟩
          case measure => simp [intOf]; omega
        · rw [List.concat_eq_append] at *
          obtain ⟨g, cap, rfl, hbg, hgl, hcc⟩ := own_pos hown (by simp [pairs])
          have hlen3 : (pairs (l ++ [(f, t)])).length = l.length + 1 := by simp [pairs]
          have HO : Hid (wr.ownsRow w.heap.size 135 2 (.slice (some ⟨g, 0, none⟩) (l.length + 1) cap) (l.length + 1) (flat (pairs (l ++ [(f, t)])))) := by rw [← hlen3]; exact hown
          have hcell : wr.cell? ⟨g, l.length * 2 + 1, none⟩ = some (.int .i64 t) := by
            rw [HO.out.cellAt _ (by omega), pairs_app, flat_app, List.getElem?_append_right (by rw [flat_len, pairs_len]; omega), flat_len, pairs_len]
            simp [flat]
          have hfro := HO.out.frozenAt (l.length * 2 + 1)
          have hl16 : (l.length : Int) ≤ 15 := by simp at hlen; omega
          have hpf := HL.out
          rw [push_snoc] at hpf
          rw [hlen3]
          rw [hlen3] at hlen2 hcc
          clear hown hlen hlen3 HL
          by_cases htn : t = n
          · subst htn
            rw [if_pos rfl] at hpf
            have HP : Hid (flat (pairs (listTo m.testBit (t + 1))) = (flat (pairs (l ++ [(f, t)]))).set (l.length * 2 + 1) (.int .i64 ((t : Int) + 1)) ∧ (pairs (listTo m.testBit (t + 1))).length = l.length + 1) := by
              rw [hpf, pairs_app, pairs_app, ← pairs_len l, flat_set]
              exact ⟨rfl, by simp⟩
            clear hpf
            go_wp2_with fail
            refine (shas_any m t _ HM.out hlt).mono ?_
            rintro e w1 ⟨rfl, rfl⟩
            go_wp2_with fail
            go_roundw
            case rel => exact ⟨t + 1, by omega, by go_num, hg.setCell hbg _, by rw [HP.out.1, HP.out.2]; exact (HO.out.stored _ _).1⟩
            case measure => simp [intOf]; omega
          · rw [if_neg htn] at hpf
            have HP : Hid (flat (pairs (listTo m.testBit (n + 1))) = flat (pairs (l ++ [(f, t)])) ++ [.int .i64 (n : Int), .int .i64 ((n : Int) + 1)] ∧ (pairs (listTo m.testBit (n + 1))).length = l.length + 1 + 1) := by
              rw [hpf, pairs_app (l ++ [(f, t)]), flat_app]
              exact ⟨by simp [flat], by simp [pairs]⟩
            have htn' : ((t : Int) == (n : Int)) = false := by simp; omega
            clear hpf htn
            go_wp2_with fail
            refine (shas_any m n _ HM.out hlt).mono ?_
            rintro e w1 ⟨rfl, rfl⟩
            go_wp2_with (at_builtin; refine wpList_append_own _ rfl (.tmp 36) (.tmp 41) 122 rfl w.heap.size 135 i0 _ 2 16 Try.underlying122 hi0 hz0 hz1 hz2 rfl (by omega) _ _ _ rfl (HO.out.alloc _) ⟨wr.heap.size, 0, none⟩ 1 1 [.int .i64 (n : Int), .int .i64 ((n : Int) + 1)] rfl rfl (new2 _ _ _ _) (one2 _ _) (by simp only [maxLen]; omega) (by omega) (by have := hg.le; simp; omega) ?_; intro v1 w1 hown hg1 _)
            go_roundw
            case rel => exact ⟨n + 1, by omega, by go_num, (hg.alloc _).grown hg1 (fun k hk => (HO.out.lt k hk).1), by rw [HP.out.1, HP.out.2]; exact hown⟩
            case measure => simp [intOf]; omega
    · obtain rfl : n = 32 := by omega
      go_wp2_with fail
      go_ret
      exact ⟨_, rfl, hg, hown⟩
end Go.Proofs.Ytghjfakellaecaa
