/- A slice of boxes reads as a list; the contract of filter.Check. -/
import Derived.Test.YthnoafmdecehcaaFilP
import Derived.Test.YthnoafmdecehcaaCubeA
namespace Go.Proofs.Ythnoafmdecehcaa
open Go.RowKit Rm
set_option linter.unusedVariables false

/-- a slice of boxes reads as a list -/
def RdF (w : World) (v : Value) (l : List BoxI) : Prop :=
  ∃ a c, v = .slice a l.length c ∧ l.length ≤ c ∧ (l ≠ [] → ∃ b off, a = some ⟨b, off, none⟩ ∧ b < w.heap.size ∧
    ∀ i p, l[i]? = some p → ∃ sv, w.cell? ⟨b, off + i * 3, none⟩ = some (.int .i64 p.1.1) ∧ w.cell? ⟨b, off + i * 3 + 1, none⟩ = some (.int .i64 p.1.2) ∧ w.cell? ⟨b, off + i * 3 + 2, none⟩ = some sv ∧ Rd2 w sv p.2)
theorem RdF.gr {w w' : World} {v : Value} {l : List BoxI} (h : RdF w v l) (g : Gr w w') : RdF w' v l := by
  obtain ⟨a, c, e, hc, h⟩ := h
  refine ⟨a, c, e, hc, fun hl => ?_⟩
  obtain ⟨b, off, ea, hb, hx⟩ := h hl
  refine ⟨b, off, ea, Nat.lt_of_lt_of_le hb g.le, fun i p hp => ?_⟩
  obtain ⟨sv, h1, h2, h3, h4⟩ := hx i p hp
  exact ⟨sv, (g.cells.1 b _ hb).trans h1, (g.cells.1 b _ hb).trans h2, (g.cells.1 b _ hb).trans h3, h4.gr g⟩
theorem RdF.alloc {w : World} {v : Value} {l : List BoxI} (h : RdF w v l) (o : Obj) : RdF (w.alloc o) v l := h.gr ((Gr.refl w).alloc o)
theorem RdF.nil (w : World) : RdF w (.slice none 0 0) [] := ⟨none, 0, rfl, Nat.le_refl _, fun h => absurd rfl h⟩

theorem rd2_form {w : World} {v : Value} {l : List (Int × Int)} (h : Rd2 w v l) : ∃ a c, v = .slice a l.length c := by
  obtain ⟨a, c, e, _⟩ := h
  exact ⟨a, c, e⟩

theorem fdrop_at {l : List BoxI} {k : Nat} {p : BoxI} (h : l[k]? = some p) : l.drop k = p :: l.drop (k + 1) := by
  obtain ⟨hk, e⟩ := List.getElem?_eq_some_iff.1 h
  rw [List.drop_eq_getElem_cons hk, e]

set_option maxHeartbeats 1000000 in
set_option maxRecDepth 100000 in
theorem fcheck_any (v : Value) (l : List BoxI) (w : World) (hr : RdF w v l) :
    Calls Try.prog 55 #[v] w fun e w' => e = .returned (.int .i64 (chkF l)) ∧ Gr w w' := by
  obtain ⟨a, cp, rfl, hcp, hx⟩ := hr
  by_cases h40 : 40 < l.length
  · have e : chkF l = 2 := by simp [chkF, h40]
    rw [e]
    have hz : (40 : Int) < (l.length : Int) := by omega
    clear hx
    go_enter Try.func55, Try.ntmps55
    go_wp2
    go_ret
    exact ⟨rfl, Gr.refl _⟩
  · have e : chkF l = chkFGo l := by simp [chkF, h40]
    rw [e]
    clear e
    have hz : ¬ (40 : Int) < (l.length : Int) := by omega
    have HX := Lib.hid hx
    clear hx
    go_enter Try.func55, Try.ntmps55
    go_wp2
    go_loopw [12] (fun i wr => ∃ k : Nat, k ≤ l.length ∧ i = .int .i64 k ∧ Hid (chkFGo l = chkFGo (l.drop k)) ∧ Gr w wr) (fun i _ => l.length - (intOf i).toNat)
    case atStart => exact ⟨0, by omega, rfl, rfl, Gr.refl _⟩
    case round =>
      obtain ⟨k, hk, rfl, hh, hg⟩ := hrel
      generalize wr = wo at *
      by_cases hlt : k < l.length
      · obtain ⟨⟨⟨y, n⟩, s⟩, hp⟩ : ∃ p, l[k]? = some p := ⟨_, List.getElem?_eq_getElem hlt⟩
        obtain ⟨b, off, rfl, hb, hcell⟩ := HX.out (by intro e; rw [e] at hlt; simp at hlt)
        obtain ⟨sv, c1, c2, c3, hs⟩ := hcell k _ hp
        rw [← hg.cells.1 b _ hb] at c1 c2 c3
        simp only at c1 c2 c3 hs
        obtain ⟨sa, sc, rfl⟩ := rd2_form hs
        have hs1 := Lib.hid (hs.gr hg)
        have hbr : b < wo.heap.size := Nat.lt_of_lt_of_le hb hg.le
        have HH : Hid (chkFGo l = if chkB ((y, n), s) == 0 then chkFGo (l.drop (k + 1)) else chkB ((y, n), s)) := by
          rw [hh.out, fdrop_at hp]; rfl
        clear hh hcell hs hp
        have hk16 : (k : Int) ≤ 40 := by omega
        cases hc : (chk y n == 0)
        · have hc' := bne_of' hc
          have E1 : Hid (chkFGo l = chk y n) := by
            have := HH.out
            simp only [chkB, hc, Bool.false_eq_true, if_false] at this
            exact this
          clear HH
          go_wp2_with fail
          refine (check_any _ _ _).mono ?_
          rintro e w1 ⟨rfl, g1⟩
          go_wp2_with fail
          go_ret
          exact ⟨by rw [E1.out]; rfl, (hg.alloc _).trans g1⟩
        · have hc' := bne_of hc
          cases hd : (chkS s == 0)
          · have hd' := sbne_of' hd
            have E1 : Hid (chkFGo l = chkS s) := by
              have := HH.out
              simp only [chkB, hc, if_true, hd, Bool.false_eq_true, if_false] at this
              exact this
            clear HH
            go_wp2_with fail
            refine (check_any _ _ _).mono ?_
            rintro e w1 ⟨rfl, g1⟩
            obtain ⟨k1, k2⟩ := g1.cells
            go_wp2_with fail
            refine (scheck_any _ _ _ ((hs1.out.alloc _).gr g1)).mono ?_
            rintro e w2 ⟨rfl, g2⟩
            go_wp2_with fail
            go_ret
            exact ⟨by rw [E1.out]; rfl, ((hg.alloc _).trans g1).trans g2⟩
          · have hd' := sbne_of hd
            have E1 : Hid (chkFGo l = chkFGo (l.drop (k + 1))) := by
              have := HH.out
              simp only [chkB, hc, if_true, hd] at this
              exact this
            clear HH
            go_wp2_with fail
            refine (check_any _ _ _).mono ?_
            rintro e w1 ⟨rfl, g1⟩
            obtain ⟨k1, k2⟩ := g1.cells
            go_wp2_with fail
            refine (scheck_any _ _ _ ((hs1.out.alloc _).gr g1)).mono ?_
            rintro e w2 ⟨rfl, g2⟩
            go_wp2_with fail
            go_roundw
            case rel => exact ⟨k + 1, by omega, by go_num, E1, ((hg.alloc _).trans g1).trans g2⟩
            case measure => simp [intOf]; omega
      · obtain rfl : k = l.length := by omega
        have E1 : Hid (chkFGo l = 0) := by rw [hh.out, List.drop_length]; rfl
        clear hh
        go_wp2
        go_ret
        exact ⟨by rw [E1.out]; rfl, hg⟩
end Go.Proofs.Ythnoafmdecehcaa
