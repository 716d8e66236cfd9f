/- Package text: Show. -/
import Derived.Test.YtbodadddcbbjeaaDoorTextT
namespace Rm
open Go Go.RowKit
/-- what Show says: the error, and the text -/
def showS (l : List Nd) : Int × List UInt8 :=
  if chkL l ≠ 0 then (chkL l, []) else
  if 400 < (getS (showL l) (l.length - 1)).length then (2, []) else (0, getS (showL l) (l.length - 1))
theorem str_take (x : List UInt8) (n : Nat) : (str x).extract 0 n = str (x.take n) := by
  unfold str
  rw [ByteArray.extract_mk]
  simp
end Rm
namespace Go.Proofs.YtbodadddcbbjeaaDoor
open Go.RowKit Rm
set_option linter.unusedVariables false
set_option linter.unusedSimpArgs false
theorem textOf_ok (k a b : Int) (v : Value) (L : List (List UInt8)) (w : World) (hn : OkN (k, a, b) L.length) (hv : RdV w v (strs L)) (hL : ∀ x ∈ L, x.length ≤ 401) (hl : L.length ≤ 30) :
    Calls Tryd.prog 20 #[.agg #[.int .i64 k, .int .i64 a, .int .i64 b], v] w fun e w' => e = .returned (.string (str (ndS (k, a, b) (getS L)))) ∧ Gr w w' := by
  generalize hx : (k, a, b) = n at *
  cases hn.of with
  | all a b i => cases hx; exact textOf_all _ _ v w
  | tag a b i h => cases hx; exact textOf_tag a _ v w h
  | num a b i h hb => cases hx; exact textOf_num a b v w h hb
  | not a b i h => cases hx; exact textOf_not a _ v L w h hv hL hl
  | both a b i h hb => cases hx; exact textOf_both a b v L w h hb hv hL hl
  | any a b i h hb => cases hx; exact textOf_any a b v L w h hb hv hL hl

theorem strz_info : (Tryd.prog.info? 9).map (fun i => (i.zero, i.size, i.bytes)) = some (some (.string ⟨#[]⟩), 1, 16) := by kernel_rfl
set_option maxHeartbeats 400000 in
set_option maxRecDepth 100000 in
theorem show_bad {v : Value} {l : List Nd} {w : World} (hr : RdN w v l) (hc : (chkL l != 0) = true) :
    Calls Tryd.prog 6 #[v] w fun e w' => e = .returned (.tuple #[.string (str []), .int .i64 (chkL l)]) ∧ Gr w w' := by
  have H := Lib.hid (lcheck_any v l w hr)
  generalize chkL l = k at *
  go_enter Tryd.func6, Tryd.ntmps6
  go_wp2_with (go_at_call 19; refine H.out.mono ?_; rintro e w1 ⟨rfl, g1⟩)
  go_ret2
  exact ⟨rfl, g1⟩
/-- where the loop of Show stands -/
def ShowAt (w wr : World) (u : Value) (L : List (List UInt8)) : Prop := Gr w wr ∧ wr.ownsRow w.heap.size 9 1 u L.length (strs L)
theorem run_cut (r : List UInt8) (n : Nat) (hn : n ≤ r.length) (hr : r.take n = r.take 401) (w : World) : (Instr.slice 9 (.string (str r)) none (some (.int .i64 (n : Int))) none).run Tryd.prog w = .ok (.string (str (r.take 401))) w := by
  rw [run_slice_string_to_if _ _ _ _ _ Tryd.underlying9, if_pos ⟨by omega, by rw [str_size]; omega⟩, Int.toNat_natCast, str_take, hr]

set_option maxHeartbeats 2000000 in
set_option maxRecDepth 100000 in
theorem show_ok {v : Value} {l : List Nd} {w : World} (hr : RdN w v l) (hc : OkL l) :
    Calls Tryd.prog 6 #[v] w fun e w' => e = .returned (.tuple #[.string (str (showS l).2), .int .i64 (showS l).1]) ∧ Gr w w' := by
  obtain ⟨i0, hi0, hz0, hz1, hz2⟩ := info_parts strz_info
  have hc' := chkL_of hc
  obtain ⟨hl0, hl30, hnd⟩ := hc
  have HN := Lib.hid hnd
  have HR := Lib.hid hr
  obtain ⟨a, cp, rfl, hcp, hcell⟩ := hr
  have HX := Lib.hid hcell
  have hlen' : (l.length : Int) ≤ 30 := by omega
  have hlen0 : (0 : Int) < (l.length : Int) := by omega
  clear hnd hcell
  have HSH : Hid (showS l = if 400 < (getS (showL l) (l.length - 1)).length then (2, []) else (0, getS (showL l) (l.length - 1))) := by unfold showS; rw [if_neg (by simp [hc'])]; rfl
  go_enter Tryd.func6, Tryd.ntmps6
  go_wp2_with fail
  refine (lcheck_any _ _ _ HR.out).mono ?_
  rw [hc']
  rintro e w1 ⟨rfl, g1⟩
  have G1 := Lib.hid g1
  clear g1 HR
  go_wp2_with fail
  go_loopw [5, 17] (fun u i wr => ∃ k : Nat, k ≤ l.length ∧ i = .int .i64 k ∧ ShowAt w wr u (showL (l.take k))) (fun _ i _ => l.length - (intOf i).toNat)
  case atStart => exact ⟨0, by omega, rfl, G1.out, World.ownsRow_nil _ _ _ _⟩
  case round =>
    obtain ⟨k, hk, rfl, hg, hown⟩ := hrel
    have hbl : (showL (l.take k)).length = k := by rw [showL_len, List.length_take]; omega
    have hal := showL_all (l.take k)
    by_cases hlt : k < l.length
    · obtain ⟨⟨kd, na, nb⟩, hnk⟩ : ∃ p, l[k]? = some p := ⟨_, List.getElem?_eq_getElem hlt⟩
      obtain ⟨b, off, rfl, hb, hcl⟩ := HX.out (by intro e; rw [e] at hlt; simp at hlt)
      obtain ⟨c1, c2, c3⟩ := hcl k _ hnk
      rw [← hg.cells.1 b _ hb] at c1 c2 c3
      simp only at c1 c2 c3
      have hbr : b < wr.heap.size := Nat.lt_of_lt_of_le hb hg.le
      have hk30 : (k : Int) < 30 := by omega
      have HOK : Hid (OkN (kd, na, nb) (showL (l.take k)).length) := by rw [hbl]; exact HN.out k _ hnk
      have HS := Lib.hid (show showL (l.take (k + 1)) = showL (l.take k) ++ [(ndS (kd, na, nb) (getS (showL (l.take k)))).take 401] from showL_take hnk)
      have HO := Lib.hid hown
      have HAL := Lib.hid hal
      obtain ⟨ua, uc, rfl, huc⟩ := own_form hown
      generalize showL (l.take k) = bs at *
      have hb30 : bs.length < 30 := by omega
      clear hcl hnk hown hbl hal
      have RB := Lib.hid ((RdV.own (by rw [strs_len]; exact HO.out)).gr ((Gr.refl wr).alloc (.cells #[.int .i64 kd, .int .i64 na, .int .i64 nb] 30)))
      go_wp2_with fail
      refine (textOf_ok kd na nb _ bs _ HOK.out RB.out HAL.out (by omega)).mono ?_
      rintro e w3 ⟨rfl, g3⟩
      have G3 := Lib.hid ((hg.alloc (.cells #[.int .i64 kd, .int .i64 na, .int .i64 nb] 30)).trans g3)
      have O3 := Lib.hid (own_gr (HO.out.alloc (.cells #[.int .i64 kd, .int .i64 na, .int .i64 nb] 30)) g3)
      clear RB HO c1 c2 c3 g3 HOK HAL
      generalize ndS (kd, na, nb) (getS bs) = r at *
      have HF : Hid (strs (bs ++ [r.take 401]) = strs bs ++ [.string (str (r.take 401))] ∧ (bs ++ [r.take 401]).length = bs.length + 1) := ⟨by simp [strs], by simp⟩
      have hz := str_size r
      have hw0 := hg.le
      have hw3 := G3.out.le
      rcases Nat.lt_or_ge 401 r.length with hd | hd
      · have hd' : (401 : Int) < (r.length : Int) := by omega
        have hcut : ∀ w, (Instr.slice 9 (.string (str r)) none (some (.int .i64 401)) none).run Tryd.prog w = .ok (.string (str (r.take 401))) w := fun w => run_cut r 401 (by omega) rfl w
        generalize r.take 401 = rc at *
        go_wp2_with (at_builtin; refine wpList_append_own _ rfl (.tmp 24) (.tmp 30) 44 rfl w.heap.size 9 i0 _ 1 16 Tryd.underlying44 hi0 hz0 hz1 hz2 rfl (by omega) _ _ _ rfl (O3.out.alloc _) ⟨w3.heap.size, 0, none⟩ 1 1 [.string (str rc)] rfl rfl (new1 _ _ _) (by intro u hu; simp at hu; subst hu; rfl) (by simp only [maxLen]; omega) (by omega) (by simp; omega) ?_; intro v1 w4 hown hg1 _)
        go_roundw
        case rel =>
          refine ⟨k + 1, by omega, by go_num, (G3.out.alloc _).grown hg1 (fun k hk => by have := (O3.out.lt k hk).1; omega), ?_⟩
          rw [HS.out, HF.out.1, HF.out.2]
          exact hown
        case measure => simp [intOf]; omega
      · have hd' : ¬ (401 : Int) < (r.length : Int) := by omega
        have hcut := run_cut r r.length (by omega) (by rw [List.take_length, List.take_of_length_le (by omega)])
        generalize r.take 401 = rc at *
        go_wp2_with (at_builtin; refine wpList_append_own _ rfl (.tmp 24) (.tmp 30) 44 rfl w.heap.size 9 i0 _ 1 16 Tryd.underlying44 hi0 hz0 hz1 hz2 rfl (by omega) _ _ _ rfl (O3.out.alloc _) ⟨w3.heap.size, 0, none⟩ 1 1 [.string (str rc)] rfl rfl (new1 _ _ _) (by intro u hu; simp at hu; subst hu; rfl) (by simp only [maxLen]; omega) (by omega) (by simp; omega) ?_; intro v1 w4 hown hg1 _)
        go_roundw
        case rel =>
          refine ⟨k + 1, by omega, by go_num, (G3.out.alloc _).grown hg1 (fun k hk => by have := (O3.out.lt k hk).1; omega), ?_⟩
          rw [HS.out, HF.out.1, HF.out.2]
          exact hown
        case measure => simp [intOf]; omega
    · obtain rfl : k = l.length := by omega
      rw [List.take_length] at *
      have HV : Hid ((strs (showL l))[l.length - 1]? = some (.string (str (getS (showL l) (l.length - 1))))) := strs_at (getS_at (by rw [hbl]; omega))
      have RB := RdV.own (by rw [strs_len]; exact hown)
      have hsl : (strs (showL l)).length = l.length := by rw [strs_len, hbl]
      generalize getS (showL l) (l.length - 1) = last at *
      generalize strs (showL l) = bs at *
      obtain ⟨ua, uc, rfl, huc, hbc⟩ := RB
      have hne : bs ≠ [] := by intro e; subst e; simp at hsl; omega
      rw [hsl] at *
      obtain ⟨vb, off, rfl, hvb, hcl⟩ := hbc hne
      have c1 := hcl _ _ HV.out
      have hsub : (l.length : Int) - 1 = ((l.length - 1 : Nat) : Int) := by omega
      have hlt1 : ((l.length - 1 : Nat) : Int) < (l.length : Int) := by omega
      have hz := str_size last
      clear hcl hown HV hne
      generalize l.length - 1 = m at *
      rcases Nat.lt_or_ge 400 last.length with hd | hd
      · have hd' : (400 : Int) < (last.length : Int) := by omega
        rw [if_pos hd] at HSH
        go_wp2_with fail
        go_ret2
        exact ⟨by rw [HSH.out]; rfl, hg⟩
      · have hd' : ¬ (400 : Int) < (last.length : Int) := by omega
        rw [if_neg (by omega)] at HSH
        go_wp2_with fail
        go_ret2
        exact ⟨by rw [HSH.out]; rfl, hg⟩
theorem show_any {v : Value} {l : List Nd} {w : World} (hr : RdN w v l) :
    Calls Tryd.prog 6 #[v] w fun e w' => e = .returned (.tuple #[.string (str (showS l).2), .int .i64 (showS l).1]) ∧ Gr w w' := by
  by_cases hc : chkL l = 0
  · exact show_ok hr (okL_of hc)
  · have e : showS l = (chkL l, []) := by unfold showS; rw [if_pos hc]
    rw [e]
    exact show_bad hr (by simpa using hc)
end Go.Proofs.YtbodadddcbbjeaaDoor
