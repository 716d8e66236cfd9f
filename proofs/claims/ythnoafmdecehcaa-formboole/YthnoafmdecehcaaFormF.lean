/- The contracts of package formula's Filter. -/
import Derived.Test.YthnoafmdecehcaaFormE
namespace Rm
open Go Go.RowKit
theorem own_apart {w : World} {b1 b2 : Nat} {e1 e2 : TypeId} {s1 s2 : Nat} {v1 v2 : Value} {n1 n2 : Nat} {xs1 xs2 : List Value} (h1 : w.ownsRow b1 e1 s1 v1 n1 xs1) (h2 : w.ownsRow b2 e2 s2 v2 n2 xs2) (he : e1 ≠ e2) : v1.ownBlock = none ∨ v1.ownBlock ≠ v2.ownBlock := by
  rcases h1.2 with ⟨rfl, _⟩ | ⟨g1, c1, cur1, rfl, _, hg1, _⟩
  · exact .inl rfl
  · rcases h2.2 with ⟨rfl, _⟩ | ⟨g2, c2, cur2, rfl, _, hg2, _⟩
    · exact .inr (by simp [Value.ownBlock])
    · refine .inr fun e => ?_
      simp [Value.ownBlock] at e
      subst e
      rw [hg1] at hg2
      simp at hg2
      exact he hg2.2
end Rm
namespace Go.Proofs.Ythnoafmdecehcaa
open Go.RowKit Rm
set_option linter.unusedVariables false

theorem FO.grown {base n b : Nat} {w w' : World} {v u : Value} {T : Nat → Nat} {E : TypeId} {s m : Nat} {xs : List Value} (h : FO base n w v T) (hu : w.ownsRow b E s u m xs) (hg : w.grownBy w' u.ownBlock) (h1 : 56 ≠ E) (h2 : 53 ≠ E) : FO base n w' v T := by
  obtain ⟨O, k1, k2, k3⟩ := h
  exact ⟨O, k1.kept hg (own_apart k1 hu h1), fun p hp => (k2 p hp).kept hg (own_apart (k2 p hp) hu h2), k3⟩
theorem FP.grown {base b : Nat} {w w' : World} {v u : Value} {P : Pt} {E : TypeId} {s m : Nat} {xs : List Value} (h : FP base w v P) (hu : w.ownsRow b E s u m xs) (hg : w.grownBy w' u.ownBlock) (h1 : 56 ≠ E) (h2 : 53 ≠ E) : FP base w' v P := by
  obtain ⟨T, k1, k2⟩ := h
  exact ⟨T, k1.grown hu hg h1 h2, k2⟩
theorem FP.one {base : Nat} {w : World} {v : Value} {P : Pt} (h : FP base w v P) : v.oneCell' = true := by
  obtain ⟨T, ⟨O, k1, _⟩, _⟩ := h
  obtain ⟨a, c, rfl, _⟩ := own_form k1
  rfl
theorem FP.form {base : Nat} {w : World} {v : Value} {P : Pt} (h : FP base w v P) : ∃ a n c, v = .slice a n c ∧ n ≤ 16 := by
  obtain ⟨T, ⟨O, k1, _, _, hl, _⟩, _⟩ := h
  obtain ⟨a, c, rfl, _⟩ := own_form k1
  exact ⟨a, _, c, rfl, hl⟩
theorem filter_info : (Try.prog.info? 28).map (fun i => (i.zero, i.size, i.bytes)) = some (some (.slice none 0 0), 1, 24) := by kernel_rfl

set_option maxHeartbeats 400000 in
set_option maxRecDepth 100000 in
theorem lfilter_bad {v : Value} {l : List Nd} {w : World} (hr : RdN w v l) (hc : (chkL l == 0) = false) :
    Calls Try.prog 10 #[v] w fun e w' => e = .returned (.tuple #[.slice none 0 0, .int .i64 (chkL l)]) ∧ Gr w w' := by
  have hc' := bne_of' hc
  have HR := Lib.hid hr
  clear hr
  go_enter Try.func10, Try.ntmps10
  go_wp2_with fail
  refine (lcheck_any _ _ _ HR.out).mono ?_
  rintro e w1 ⟨rfl, g1⟩
  go_wp2_with fail
  go_ret2
  exact ⟨rfl, g1⟩

/-- where the loop of Filter stands: the filters of the first nodes -/
def FiltAt (w wr : World) (u : Value) (L : List Value) (v : List Pt) : Prop :=
  Gr w wr ∧ wr.ownsRow w.heap.size 28 1 u L.length L ∧ L.length = v.length ∧ ∀ i x, L[i]? = some x → FP w.heap.size wr x (getP v i)

set_option maxHeartbeats 2000000 in
set_option maxRecDepth 100000 in
theorem lfilter_ok {v : Value} {l : List Nd} {w : World} (hr : RdN w v l) (hc : OkL l) :
    Calls Try.prog 10 #[v] w fun e w' => ∃ r, e = .returned (.tuple #[r, .int .i64 0]) ∧ FP w.heap.size w' r (formP l) ∧ Gr w w' := by
  obtain ⟨i0, hi0, hz0, hz1, hz2⟩ := info_parts filter_info
  have hc' := chkL_of hc
  obtain ⟨hl0, hl30, hnd⟩ := hc
  have HN := Lib.hid hnd
  have HR := Lib.hid hr
  obtain ⟨a, cp, rfl, hcp, hcell⟩ := hr
  have HX := Lib.hid hcell
  have hlen' : (l.length : Int) ≤ 30 := by omega
  have hlen0 : (0 : Int) < (l.length : Int) := by omega
  clear hnd hcell
  go_enter Try.func10, Try.ntmps10
  go_wp2_with fail
  refine (lcheck_any _ _ _ HR.out).mono ?_
  rw [hc']
  rintro e w1 ⟨rfl, g1⟩
  clear HR
  go_wp2_with fail
  go_loopw [5, 15] (fun u i wr => ∃ (k : Nat) (L : List Value), k ≤ l.length ∧ i = .int .i64 k ∧ FiltAt w wr u L (semL (l.take k))) (fun _ i _ => l.length - (intOf i).toNat)
  case atStart => exact ⟨0, [], by omega, rfl, g1, World.ownsRow_nil _ _ _ _, rfl, fun i x hx => by simp at hx⟩
  case round =>
    obtain ⟨k, L, hk, rfl, hg, hown, hLl, hfp⟩ := hrel
    have hbl : L.length = k := by rw [hLl, semL_len, List.length_take]; omega
    by_cases hlt : k < l.length
    · obtain ⟨⟨kd, na, nb⟩, hnk⟩ : ∃ p, l[k]? = some p := ⟨_, List.getElem?_eq_getElem hlt⟩
      obtain ⟨b, off, rfl, hb, hcl⟩ := HX.out (by intro e; rw [e] at hlt; simp at hlt)
      obtain ⟨c1, c2, c3⟩ := hcl k _ hnk
      rw [← hg.cells.1 b _ hb] at c1 c2 c3
      simp only at c1 c2 c3
      have hbr : b < wr.heap.size := Nat.lt_of_lt_of_le hb hg.le
      have hk30 : (k : Int) < 30 := by omega
      have HOK : Hid (OkN (kd, na, nb) L.length) := by rw [hbl]; exact HN.out k _ hnk
      have HS := Lib.hid (semL_take hnk)
      have HO := Lib.hid hown
      have HFP := Lib.hid hfp
      have hLv := Lib.hid hLl
      obtain ⟨ua, uc, rfl, huc⟩ := own_form hown
      have hb30 : L.length < 30 := by omega
      generalize semL (l.take k) = sv at *
      clear hcl hnk hown hbl hfp hLl
      have RB := Lib.hid ((RdV.own HO.out).gr ((Gr.refl wr).alloc (.cells #[.int .i64 kd, .int .i64 na, .int .i64 nb] 46)))
      go_wp2_with fail
      refine (filterOf_ok kd na nb _ L (getP sv) _ HOK.out RB.out (fun i x hx => ⟨_, (HFP.out i x hx).gr ((Gr.refl wr).alloc _)⟩) (by omega)).mono ?_
      rintro e w3 ⟨r, rfl, hr3, g3⟩
      obtain ⟨ra, rn, rc, rfl, -⟩ := hr3.form
      have R3 := Lib.hid (hr3.base (base' := w.heap.size) (by have := hg.le; simp; omega))
      have G3 := Lib.hid ((hg.alloc (.cells #[.int .i64 kd, .int .i64 na, .int .i64 nb] 46)).trans g3)
      have O3 := Lib.hid (own_gr (HO.out.alloc (.cells #[.int .i64 kd, .int .i64 na, .int .i64 nb] 46)) g3)
      have F3 := Lib.hid (fun i x (hx : L[i]? = some x) => ((HFP.out i x hx).gr ((Gr.refl wr).alloc (.cells #[.int .i64 kd, .int .i64 na, .int .i64 nb] 46))).gr g3)
      have HF : Hid ((L ++ [Value.slice ra rn rc]).length = L.length + 1) := by unfold Hid; simp
      have HW := G3.out.le
      clear RB HO c1 c2 c3 g3 HOK HFP hr3
      go_wp2_with (at_builtin; refine wpList_append_own _ rfl (.tmp 19) (.tmp 23) 74 rfl w.heap.size 28 i0 _ 1 24 Try.underlying74 hi0 hz0 hz1 hz2 rfl (by omega) _ _ _ rfl (O3.out.alloc _) ⟨w3.heap.size, 0, none⟩ 1 1 [.slice ra rn rc] rfl rfl (new1 _ _ _) (by intro u hu; simp at hu; subst hu; rfl) (by simp only [maxLen]; omega) (by omega) (by simp; omega) ?_; intro v1 w4 hown hg1 _)
      go_roundw
      case rel =>
        refine ⟨k + 1, L ++ [.slice ra rn rc], by omega, by go_num, (G3.out.alloc _).grown hg1 (fun k hk => (O3.out.lt k hk).1), by rw [HF.out]; exact hown, by rw [HS.out, HF.out, hLv.out]; simp, fun i x hx => ?_⟩
        rw [HS.out]
        rcases Nat.lt_or_ge i L.length with c | c
        · rw [List.getElem?_append_left c] at hx
          rw [getP_app (by rw [← hLv.out]; exact c)]
          exact ((F3.out i x hx).gr ((Gr.refl _).alloc _)).grown (O3.out.alloc _) hg1 (by decide) (by decide)
        · rw [List.getElem?_append_right c] at hx
          have h0 : i - L.length = 0 := by
            rcases Nat.eq_zero_or_pos (i - L.length) with z | z
            · exact z
            · rw [List.getElem?_eq_none (by simp; omega)] at hx; cases hx
          rw [h0] at hx
          obtain rfl : Value.slice ra rn rc = x := by simpa using hx
          rw [show i = sv.length by have := hLv.out; omega, getP_end]
          exact (R3.out.gr ((Gr.refl _).alloc _)).grown (O3.out.alloc _) hg1 (by decide) (by decide)
      case measure => simp [intOf]; omega
    · obtain rfl : k = l.length := by omega
      obtain ⟨r, hr⟩ : ∃ r, L[l.length - 1]? = some r := ⟨_, List.getElem?_eq_getElem (by omega)⟩
      have HP : Hid (FP w.heap.size wr r (formP l)) := by
        have := hfp _ _ hr
        rw [List.take_length] at this
        exact this
      have RB := RdV.own hown
      obtain ⟨ua, uc, rfl, huc, hbc⟩ := RB
      have hne : L ≠ [] := by intro e; subst e; simp at hbl; omega
      rw [hbl] at *
      obtain ⟨vb, off, rfl, hvb, hcl⟩ := hbc hne
      have c1 := hcl _ _ hr
      have hsub : (l.length : Int) - 1 = ((l.length - 1 : Nat) : Int) := by omega
      have hlt1 : ((l.length - 1 : Nat) : Int) < (l.length : Int) := by omega
      clear hcl hown hne hfp hr
      generalize l.length - 1 = m at *
      go_wp2_with fail
      go_ret2
      exact ⟨r, rfl, HP.out, hg⟩
end Go.Proofs.Ythnoafmdecehcaa
