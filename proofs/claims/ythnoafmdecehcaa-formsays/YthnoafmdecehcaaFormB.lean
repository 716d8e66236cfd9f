/- Joined: FormB, FormC. -/
import Derived.Test.YthnoafmdecehcaaFormA
import Derived.Test.YthnoafmdecehcaaFilL
/- The contracts of package formula's valueOf and Is. -/
namespace Rm
open Go Go.RowKit
/-- a slice of bools reads as a list -/
def RdB (w : World) (v : Value) (l : List Bool) : Prop :=
  ∃ a c, v = .slice a l.length c ∧ l.length ≤ c ∧ (l ≠ [] → ∃ b off, a = some ⟨b, off, none⟩ ∧ b < w.heap.size ∧ ∀ i p, l[i]? = some p → w.cell? ⟨b, off + i, none⟩ = some (.bool p))
theorem RdB.gr {w w' : World} {v : Value} {l : List Bool} (h : RdB w v l) (g : Gr w w') : RdB w' v l := by
  obtain ⟨a, c, e, hc, h⟩ := h
  refine ⟨a, c, e, hc, fun hl => ?_⟩
  obtain ⟨b, off, ea, hb, hx⟩ := h hl
  exact ⟨b, off, ea, Nat.lt_of_lt_of_le hb g.le, fun i p hp => (g.cells.1 b _ hb).trans (hx i p hp)⟩
theorem RdB.own {w : World} {base : Nat} {e : TypeId} {v : Value} {l : List Bool} (h : w.ownsRow base e 1 v l.length (l.map .bool)) : RdB w v l := by
  obtain ⟨hl, h⟩ := h
  rcases h with ⟨rfl, h0⟩ | ⟨g, cap, cur, rfl, _, hg, hn, _, hs, ht⟩
  · have : l = [] := List.eq_nil_of_length_eq_zero h0
    subst this
    exact ⟨none, 0, rfl, Nat.le_refl _, fun h => absurd rfl h⟩
  · refine ⟨_, _, rfl, hn, fun hne => ?_⟩
    have hlt : g < w.heap.size := by
      rcases Nat.lt_or_ge g w.heap.size with h | h
      · exact h
      · rw [Array.getElem?_eq_none h] at hg; cases hg
    refine ⟨g, 0, rfl, hlt, fun i p hp => ?_⟩
    have hi : i < l.length := (List.getElem?_eq_some_iff.1 hp).1
    have hf : (l.map Value.bool)[i]? = some (.bool p) := by simp [hp]
    rw [← ht, List.getElem?_take_of_lt (by omega)] at hf
    simpa [World.cell?, hg] using hf
theorem tag_bits : ∀ t < 16, ∀ a < 4, (bits .and .i64 ((t : Nat) : Int) ((2 ^ a : Nat) : Int) != 0) = Nat.testBit t a := by decide +kernel
end Rm
namespace Go.Proofs.Ythnoafmdecehcaa
open Go.RowKit Rm
set_option linter.unusedVariables false

theorem bool_at {l : List Bool} {i : Nat} (h : i < l.length) : l[i]? = some (l.getD i false) := by
  simp [List.getD_eq_getElem?_getD, List.getElem?_eq_getElem h]

set_option maxHeartbeats 1000000 in
set_option maxRecDepth 100000 in
theorem valueOf_ok (n : Nd) (t x : Nat) (v : Value) (bs : List Bool) (w : World) (hn : OkN n bs.length) (ht : t < 16) (hx : x < 32) (hv : RdB w v bs) (hl : bs.length ≤ 30) :
    Calls Try.prog 46 #[.agg #[.int .i64 n.1, .int .i64 n.2.1, .int .i64 n.2.2], .agg #[.int .i64 (t : Int), .int .i64 (x : Int)], v] w fun e w' => e = .returned (.bool (ndB n t x (fun i => bs.getD i false))) ∧ Gr w w' := by
  obtain ⟨va, vc, rfl, hvc, hcell⟩ := hv
  cases hn.of with
  | all a b i =>
    rw [show ndB (1, a, b) t x (fun i => bs.getD i false) = true from rfl]
    go_enter Try.func46, Try.ntmps46
    go_wp2
    go_ret
    exact ⟨rfl, ((Gr.refl _).alloc _).alloc _⟩
  | tag a b i h =>
    rw [show ndB (2, (a : Int), b) t x (fun i => bs.getD i false) = t.testBit a from rfl, ← tag_bits t ht a h]
    clear hcell
    match a, h with
    | 0, _ | 1, _ | 2, _ | 3, _ =>
      go_enter Try.func46, Try.ntmps46
      go_wp2
      go_region
      go_wp2
      go_ret
      exact ⟨rfl, (((Gr.refl _).alloc _).alloc _).drewN _⟩
  | num a b i h hb =>
    rw [show ndB (3, (a : Int), (b : Int)) t x (fun i => bs.getD i false) = (decide ((a : Int) ≤ (x : Int)) && decide ((x : Int) < (b : Int))) from rfl]
    clear hcell
    by_cases h1 : (a : Int) ≤ (x : Int)
    · by_cases h2 : (x : Int) < (b : Int)
      · rw [show (decide ((a : Int) ≤ (x : Int)) && decide ((x : Int) < (b : Int))) = true from by simp [h1, h2]]
        go_enter Try.func46, Try.ntmps46
        go_wp2
        go_ret
        exact ⟨rfl, ((Gr.refl _).alloc _).alloc _⟩
      · rw [show (decide ((a : Int) ≤ (x : Int)) && decide ((x : Int) < (b : Int))) = false from by simp [h1, h2]]
        go_enter Try.func46, Try.ntmps46
        go_wp2
        go_ret
        exact ⟨rfl, ((Gr.refl _).alloc _).alloc _⟩
    · rw [show (decide ((a : Int) ≤ (x : Int)) && decide ((x : Int) < (b : Int))) = false from by simp [h1]]
      go_enter Try.func46, Try.ntmps46
      go_wp2
      go_ret
      exact ⟨rfl, ((Gr.refl _).alloc _).alloc _⟩
  | not a b i h =>
    rw [show ndB (4, (a : Int), b) t x (fun i => bs.getD i false) = !(bs.getD a false) from rfl]
    obtain ⟨vb, off, rfl, hb, hc⟩ := hcell (by intro e; rw [e] at h; simp at h)
    have c1 := hc a _ (bool_at h)
    have h' : (a : Int) < (bs.length : Int) := by omega
    clear hc
    generalize bs.getD a false = ba at *
    go_enter Try.func46, Try.ntmps46
    go_wp2
    go_ret
    exact ⟨rfl, ((Gr.refl _).alloc _).alloc _⟩
  | both a b i h hb =>
    rw [show ndB (5, (a : Int), (b : Int)) t x (fun i => bs.getD i false) = (bs.getD a false && bs.getD b false) from rfl]
    obtain ⟨vb, off, rfl, hb', hc⟩ := hcell (by intro e; rw [e] at h; simp at h)
    have c1 := hc a _ (bool_at h)
    have c2 := hc b _ (bool_at hb)
    have h1' : (a : Int) < (bs.length : Int) := by omega
    have h2' : (b : Int) < (bs.length : Int) := by omega
    clear hc
    generalize bs.getD a false = ba at *
    generalize bs.getD b false = bb at *
    cases ba
    all_goals
      go_enter Try.func46, Try.ntmps46
      go_wp2
      go_ret
      exact ⟨rfl, ((Gr.refl _).alloc _).alloc _⟩
  | any a b i h hb =>
    rw [show ndB (6, (a : Int), (b : Int)) t x (fun i => bs.getD i false) = (bs.getD a false || bs.getD b false) from rfl]
    obtain ⟨vb, off, rfl, hb', hc⟩ := hcell (by intro e; rw [e] at h; simp at h)
    have c1 := hc a _ (bool_at h)
    have c2 := hc b _ (bool_at hb)
    have h1' : (a : Int) < (bs.length : Int) := by omega
    have h2' : (b : Int) < (bs.length : Int) := by omega
    clear hc
    generalize bs.getD a false = ba at *
    generalize bs.getD b false = bb at *
    cases ba
    all_goals
      go_enter Try.func46, Try.ntmps46
      go_wp2
      go_ret
      exact ⟨rfl, ((Gr.refl _).alloc _).alloc _⟩
theorem valueOf_at (k a b : Int) (t x : Nat) (v : Value) (bs : List Bool) (w : World) (hn : OkN (k, a, b) bs.length) (ht : t < 16) (hx : x < 32) (hv : RdB w v bs) (hl : bs.length ≤ 30) :
    Calls Try.prog 46 #[.agg #[.int .i64 k, .int .i64 a, .int .i64 b], .agg #[.int .i64 (t : Int), .int .i64 (x : Int)], v] w fun e w' => e = .returned (.bool (ndB (k, a, b) t x (fun i => bs.getD i false))) ∧ Gr w w' :=
  valueOf_ok (k, a, b) t x v bs w hn ht hx hv hl
end Go.Proofs.Ythnoafmdecehcaa
/- The contracts of package formula's Is. -/
namespace Go.Proofs.Ythnoafmdecehcaa
open Go.RowKit Rm
set_option linter.unusedVariables false

theorem boolz_info : (Try.prog.info? 4).map (fun i => (i.zero, i.size, i.bytes)) = some (some (.bool false), 1, 1) := by kernel_rfl
/-- what the nodes say of a point -/
def atP (v : List Pt) (t x : Nat) : List Bool := v.map fun P => P t x
theorem atP_get (v : List Pt) (t x i : Nat) : (atP v t x).getD i false = getP v i t x := by
  unfold atP getP
  simp only [List.getD_eq_getElem?_getD, List.getElem?_map]
  cases v[i]? <;> rfl
theorem atP_snoc (v : List Pt) (n : Nd) (t x : Nat) : atP (v ++ [ndP n (getP v)]) t x = atP v t x ++ [ndB n t x (fun i => (atP v t x).getD i false)] := by
  simp only [atP_get]
  unfold atP
  rw [List.map_append]
  rfl
theorem atP_len (v : List Pt) (t x : Nat) : (atP v t x).length = v.length := by simp [atP]

set_option maxHeartbeats 400000 in
set_option maxRecDepth 100000 in
theorem is_bad {v : Value} {l : List Nd} {w : World} (t n : Int) (hr : RdN w v l) (hc : (chkL l == 0) = false) :
    Calls Try.prog 9 #[v, .agg #[.int .i64 t, .int .i64 n]] w fun e w' => e = .returned (.tuple #[.bool false, .int .i64 (chkL l)]) ∧ Gr w w' := by
  have hc' := bne_of' hc
  have HR := Lib.hid hr
  clear hr
  go_enter Try.func9, Try.ntmps9
  go_wp2_with fail
  refine (lcheck_any _ _ _ (HR.out.alloc _)).mono ?_
  rintro e w1 ⟨rfl, g1⟩
  go_wp2_with fail
  go_ret2
  exact ⟨rfl, ((Gr.refl _).alloc _).trans g1⟩

set_option maxHeartbeats 400000 in
set_option maxRecDepth 100000 in
theorem is_point {v : Value} {l : List Nd} {w : World} (t n : Int) (hr : RdN w v l) (hc : OkL l) (hp : pointB t n = false) :
    Calls Try.prog 9 #[v, .agg #[.int .i64 t, .int .i64 n]] w fun e w' => e = .returned (.tuple #[.bool false, .int .i64 1]) ∧ Gr w w' := by
  have hc' := chkL_of hc
  have HR := Lib.hid hr
  clear hr
  go_enter Try.func9, Try.ntmps9
  go_wp2_with fail
  refine (lcheck_any _ _ _ (HR.out.alloc _)).mono ?_
  rw [hc']
  rintro e w1 ⟨rfl, g1⟩
  have T1 := (Two.new w t n 24).gr g1
  obtain ⟨t0, t1, t2⟩ := T1
  go_wp2_with fail
  refine (point_any _ _ _).mono ?_
  rw [hp]
  rintro e w2 ⟨rfl, g2⟩
  go_wp2_with fail
  go_ret2
  exact ⟨rfl, (((Gr.refl _).alloc _).trans g1).trans g2⟩

/-- where the loop of Is stands -/
def IsAt (w wr : World) (t x : Nat) (u : Value) (bs : List Bool) : Prop :=
  Gr w wr ∧ Two wr w.heap.size t x ∧ wr.ownsRow (w.heap.size + 1) 4 1 u bs.length (bs.map .bool)

set_option maxHeartbeats 2000000 in
set_option maxRecDepth 100000 in
theorem is_ok {v : Value} {l : List Nd} {w : World} {t x : Nat} (hr : RdN w v l) (hc : OkL l) (ht : t < 16) (hx : x < 32) :
    Calls Try.prog 9 #[v, .agg #[.int .i64 (t : Int), .int .i64 (x : Int)]] w fun e w' => e = .returned (.tuple #[.bool (formP l t x), .int .i64 0]) ∧ Gr w w' := by
  obtain ⟨i0, hi0, hz0, hz1, hz2⟩ := info_parts boolz_info
  have hc' := chkL_of hc
  have hp := pointB_nat ht hx
  obtain ⟨hl0, hl30, hnd⟩ := hc
  have HN := Lib.hid hnd
  have HR := Lib.hid hr
  obtain ⟨a, cp, rfl, hcp, hcell⟩ := hr
  have HX := Lib.hid hcell
  have hlen' : (l.length : Int) ≤ 30 := by omega
  have hlen0 : (0 : Int) < (l.length : Int) := by omega
  clear hnd hcell
  go_enter Try.func9, Try.ntmps9
  go_wp2_with fail
  refine (lcheck_any _ _ _ (HR.out.alloc _)).mono ?_
  rw [hc']
  rintro e w1 ⟨rfl, g1⟩
  have T1 := (Two.new w t x 24).gr g1
  have HT1 := Lib.hid T1
  obtain ⟨t0, t1, t2⟩ := T1
  go_wp2_with fail
  refine (point_any _ _ _).mono ?_
  rw [hp]
  rintro e w2 ⟨rfl, g2⟩
  have HT2 := Lib.hid (HT1.out.gr g2)
  have G2 := Lib.hid ((((Gr.refl w).alloc (.cells #[.int .i64 (t : Int), .int .i64 (x : Int)] 24)).trans g1).trans g2)
  clear HT1 t0 t1 t2 g1 g2 HR
  go_wp2_with fail
  go_loopw [7, 20] (fun u i wr => ∃ k : Nat, k ≤ l.length ∧ i = .int .i64 k ∧ IsAt w wr t x u (atP (semL (l.take k)) t x)) (fun _ i _ => l.length - (intOf i).toNat)
  case atStart => exact ⟨0, by omega, rfl, G2.out, HT2.out, World.ownsRow_nil _ _ _ _⟩
  case round =>
    obtain ⟨k, hk, rfl, hg, htwo, hown⟩ := hrel
    have hbl : (atP (semL (l.take k)) t x).length = k := by rw [atP_len, semL_len, List.length_take]; omega
    by_cases hlt : k < l.length
    · obtain ⟨⟨kd, na, nb⟩, hnk⟩ : ∃ p, l[k]? = some p := ⟨_, List.getElem?_eq_getElem hlt⟩
      obtain ⟨b, off, rfl, hb, hcl⟩ := HX.out (by intro e; rw [e] at hlt; simp at hlt)
      obtain ⟨c1, c2, c3⟩ := hcl k _ hnk
      rw [← hg.cells.1 b _ hb] at c1 c2 c3
      simp only at c1 c2 c3
      have hbr : b < wr.heap.size := Nat.lt_of_lt_of_le hb hg.le
      have hk30 : (k : Int) < 30 := by omega
      have HOK : Hid (OkN (kd, na, nb) (atP (semL (l.take k)) t x).length) := by rw [hbl]; exact HN.out k _ hnk
      have HS := Lib.hid (show atP (semL (l.take (k + 1))) t x = atP (semL (l.take k)) t x ++ [ndB (kd, na, nb) t x (fun i => (atP (semL (l.take k)) t x).getD i false)] from by rw [semL_take hnk, atP_snoc])
      have HO := Lib.hid hown
      have HTW := Lib.hid htwo
      obtain ⟨ua, uc, rfl, huc⟩ := own_form hown
      obtain ⟨t0, t1, t2⟩ := htwo
      generalize atP (semL (l.take k)) t x = bs at *
      have hb30 : bs.length < 30 := by omega
      clear hcl hnk hown hbl
      have RB := Lib.hid ((RdB.own HO.out).gr ((Gr.refl wr).alloc (.cells #[.int .i64 kd, .int .i64 na, .int .i64 nb] 46)))
      go_wp2_with fail
      refine (valueOf_at kd na nb t x _ bs _ HOK.out ht hx RB.out (by omega)).mono ?_
      rintro e w3 ⟨rfl, g3⟩
      have G3 := Lib.hid ((hg.alloc (.cells #[.int .i64 kd, .int .i64 na, .int .i64 nb] 46)).trans g3)
      have O3 := Lib.hid (own_gr (HO.out.alloc (.cells #[.int .i64 kd, .int .i64 na, .int .i64 nb] 46)) g3)
      have T3 := Lib.hid ((HTW.out.alloc (.cells #[.int .i64 kd, .int .i64 na, .int .i64 nb] 46)).gr g3)
      clear RB HO HTW t0 t1 t2 c1 c2 c3 g3 HOK
      generalize ndB (kd, na, nb) t x (fun i => bs.getD i false) = r at *
      have HF : Hid ((bs ++ [r]).map Value.bool = bs.map Value.bool ++ [.bool r] ∧ (bs ++ [r]).length = bs.length + 1) := ⟨by simp, by simp⟩
      go_wp2_with (at_builtin; refine wpList_append_own _ rfl (.tmp 24) (.tmp 29) 81 rfl (w.heap.size + 1) 4 i0 _ 1 1 Try.underlying81 hi0 hz0 hz1 hz2 rfl (by omega) _ _ _ rfl (O3.out.alloc _) ⟨w3.heap.size, 0, none⟩ 1 1 [.bool r] rfl rfl (new1 _ _ _) (by intro u hu; simp at hu; subst hu; rfl) (by simp only [maxLen]; omega) (by omega) (by have := T3.out.1; simp; omega) ?_; intro v1 w4 hown hg1 _)
      go_roundw
      case rel =>
        refine ⟨k + 1, by omega, by go_num, (G3.out.alloc _).grown hg1 (fun k hk => by have := (O3.out.lt k hk).1; omega), (T3.out.alloc _).grown hg1 (fun k hk => by have := (O3.out.lt k hk).1; omega), ?_⟩
        rw [HS.out, HF.out.1, HF.out.2]
        exact hown
      case measure => simp [intOf]; omega
    · obtain rfl : k = l.length := by omega
      have HV : Hid ((atP (semL (l.take l.length)) t x)[l.length - 1]? = some (formP l t x)) := by
        rw [bool_at (by rw [hbl]; omega), atP_get, List.take_length]
        rfl
      have HO := Lib.hid hown
      have RB := RdB.own hown
      generalize atP (semL (l.take l.length)) t x = bs at *
      obtain ⟨ua, uc, rfl, huc, hbc⟩ := RB
      have hne : bs ≠ [] := by intro e; subst e; simp at hbl; omega
      rw [hbl] at *
      obtain ⟨vb, off, rfl, hvb, hcl⟩ := hbc hne
      have c1 := hcl _ _ HV.out
      have hsub : (l.length : Int) - 1 = ((l.length - 1 : Nat) : Int) := by omega
      have hlt1 : ((l.length - 1 : Nat) : Int) < (l.length : Int) := by omega
      clear hcl hown htwo HV hne
      obtain ⟨r, hr⟩ : ∃ r, formP l t x = r := ⟨_, rfl⟩
      rw [hr] at c1
      have HR := Lib.hid hr
      clear hr
      generalize l.length - 1 = m at *
      go_wp2_with fail
      go_ret2
      exact ⟨by rw [HR.out]; rfl, hg⟩
end Go.Proofs.Ythnoafmdecehcaa
