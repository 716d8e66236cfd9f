/- The contracts of package formula's Is. -/
import Derived.Test.YthnoafmdecehcaaFormB
namespace Go.Proofs.Ythnoafmdecehcaa
open Go.RowKit Rm
set_option linter.unusedVariables false

theorem bool_info : (Try.prog.info? 4).map (fun i => (i.zero, i.size, i.bytes)) = some (some (.bool false), 1, 1) := by kernel_rfl
/-- what the nodes say of a point -/
def atP (v : List Pt) (t x : Nat) : List Bool := v.map fun P => P t x
theorem atP_get (v : List Pt) (t x i : Nat) : (atP v t x).getD i false = getP v i t x := by
  unfold atP getP
  simp only [List.getD_eq_getElem?_getD, List.getElem?_map]
  cases v[i]? <;> rfl
theorem atP_snoc (v : List Pt) (n : Nd) (t x : Nat) : atP (v ++ [ndP n (getP v)]) t x = atP v t x ++ [ndB n t x (fun i => (atP v t x).getD i false)] := by
  simp only [atP_get]
  unfold atP
  rw [List.map_append]
  rfl
theorem atP_len (v : List Pt) (t x : Nat) : (atP v t x).length = v.length := by simp [atP]

set_option maxHeartbeats 400000 in
set_option maxRecDepth 100000 in
theorem is_bad {v : Value} {l : List Nd} {w : World} (t n : Int) (hr : RdN w v l) (hc : (chkL l == 0) = false) :
    Calls Try.prog 9 #[v, .agg #[.int .i64 t, .int .i64 n]] w fun e w' => e = .returned (.tuple #[.bool false, .int .i64 (chkL l)]) ∧ Gr w w' := by
  have hc' := bne_of' hc
  have HR := Lib.hid hr
  clear hr
  go_enter Try.func9, Try.ntmps9
  go_wp2_with fail
  refine (lcheck_any _ _ _ (HR.out.alloc _)).mono ?_
  rintro e w1 ⟨rfl, g1⟩
  go_wp2_with fail
  go_ret2
  exact ⟨rfl, ((Gr.refl _).alloc _).trans g1⟩

set_option maxHeartbeats 400000 in
set_option maxRecDepth 100000 in
theorem is_point {v : Value} {l : List Nd} {w : World} (t n : Int) (hr : RdN w v l) (hc : OkL l) (hp : pointB t n = false) :
    Calls Try.prog 9 #[v, .agg #[.int .i64 t, .int .i64 n]] w fun e w' => e = .returned (.tuple #[.bool false, .int .i64 1]) ∧ Gr w w' := by
  have hc' := chkL_of hc
  have HR := Lib.hid hr
  clear hr
  go_enter Try.func9, Try.ntmps9
  go_wp2_with fail
  refine (lcheck_any _ _ _ (HR.out.alloc _)).mono ?_
  rw [hc']
  rintro e w1 ⟨rfl, g1⟩
  have T1 := (Two.new w t n 24).gr g1
  obtain ⟨t0, t1, t2⟩ := T1
  go_wp2_with fail
  refine (point_any _ _ _).mono ?_
  rw [hp]
  rintro e w2 ⟨rfl, g2⟩
  go_wp2_with fail
  go_ret2
  exact ⟨rfl, (((Gr.refl _).alloc _).trans g1).trans g2⟩

/-- where the loop of Is stands -/
def IsAt (w wr : World) (t x : Nat) (u : Value) (bs : List Bool) : Prop :=
  Gr w wr ∧ Two wr w.heap.size t x ∧ wr.ownsRow (w.heap.size + 1) 4 1 u bs.length (bs.map .bool)

set_option maxHeartbeats 2000000 in
set_option maxRecDepth 100000 in
theorem is_ok {v : Value} {l : List Nd} {w : World} {t x : Nat} (hr : RdN w v l) (hc : OkL l) (ht : t < 16) (hx : x < 32) :
    Calls Try.prog 9 #[v, .agg #[.int .i64 (t : Int), .int .i64 (x : Int)]] w fun e w' => e = .returned (.tuple #[.bool (formP l t x), .int .i64 0]) ∧ Gr w w' := by
  obtain ⟨i0, hi0, hz0, hz1, hz2⟩ := info_parts bool_info
  have hc' := chkL_of hc
  have hp := pointB_nat ht hx
  obtain ⟨hl0, hl30, hnd⟩ := hc
  have HN := Lib.hid hnd
  have HR := Lib.hid hr
  obtain ⟨a, cp, rfl, hcp, hcell⟩ := hr
  have HX := Lib.hid hcell
  have hlen' : (l.length : Int) ≤ 30 := by omega
  have hlen0 : (0 : Int) < (l.length : Int) := by omega
  clear hnd hcell
  go_enter Try.func9, Try.ntmps9
  go_wp2_with fail
  refine (lcheck_any _ _ _ (HR.out.alloc _)).mono ?_
  rw [hc']
  rintro e w1 ⟨rfl, g1⟩
  have T1 := (Two.new w t x 24).gr g1
  have HT1 := Lib.hid T1
  obtain ⟨t0, t1, t2⟩ := T1
  go_wp2_with fail
  refine (point_any _ _ _).mono ?_
  rw [hp]
  rintro e w2 ⟨rfl, g2⟩
  have HT2 := Lib.hid (HT1.out.gr g2)
  have G2 := Lib.hid ((((Gr.refl w).alloc (.cells #[.int .i64 (t : Int), .int .i64 (x : Int)] 24)).trans g1).trans g2)
  clear HT1 t0 t1 t2 g1 g2 HR
  go_wp2_with fail
  go_loopw [7, 20] (fun u i wr => ∃ k : Nat, k ≤ l.length ∧ i = .int .i64 k ∧ IsAt w wr t x u (atP (semL (l.take k)) t x)) (fun _ i _ => l.length - (intOf i).toNat)
  case atStart => exact ⟨0, by omega, rfl, G2.out, HT2.out, World.ownsRow_nil _ _ _ _⟩
  case round =>
    obtain ⟨k, hk, rfl, hg, htwo, hown⟩ := hrel
    have hbl : (atP (semL (l.take k)) t x).length = k := by rw [atP_len, semL_len, List.length_take]; omega
    by_cases hlt : k < l.length
    · obtain ⟨⟨kd, na, nb⟩, hnk⟩ : ∃ p, l[k]? = some p := ⟨_, List.getElem?_eq_getElem hlt⟩
      obtain ⟨b, off, rfl, hb, hcl⟩ := HX.out (by intro e; rw [e] at hlt; simp at hlt)
      obtain ⟨c1, c2, c3⟩ := hcl k _ hnk
      rw [← hg.cells.1 b _ hb] at c1 c2 c3
      simp only at c1 c2 c3
      have hbr : b < wr.heap.size := Nat.lt_of_lt_of_le hb hg.le
      have hk30 : (k : Int) < 30 := by omega
      have HOK : Hid (OkN (kd, na, nb) (atP (semL (l.take k)) t x).length) := by rw [hbl]; exact HN.out k _ hnk
      have HS := Lib.hid (show atP (semL (l.take (k + 1))) t x = atP (semL (l.take k)) t x ++ [ndB (kd, na, nb) t x (fun i => (atP (semL (l.take k)) t x).getD i false)] from by rw [semL_take hnk, atP_snoc])
      have HO := Lib.hid hown
      have HTW := Lib.hid htwo
      obtain ⟨ua, uc, rfl, huc⟩ := own_form hown
      obtain ⟨t0, t1, t2⟩ := htwo
      generalize atP (semL (l.take k)) t x = bs at *
      have hb30 : bs.length < 30 := by omega
      clear hcl hnk hown hbl
      have RB := Lib.hid ((RdB.own HO.out).gr ((Gr.refl wr).alloc (.cells #[.int .i64 kd, .int .i64 na, .int .i64 nb] 46)))
      go_wp2_with fail
      refine (valueOf_at kd na nb t x _ bs _ HOK.out ht hx RB.out (by omega)).mono ?_
      rintro e w3 ⟨rfl, g3⟩
      have G3 := Lib.hid ((hg.alloc (.cells #[.int .i64 kd, .int .i64 na, .int .i64 nb] 46)).trans g3)
      have O3 := Lib.hid (own_gr (HO.out.alloc (.cells #[.int .i64 kd, .int .i64 na, .int .i64 nb] 46)) g3)
      have T3 := Lib.hid ((HTW.out.alloc (.cells #[.int .i64 kd, .int .i64 na, .int .i64 nb] 46)).gr g3)
      clear RB HO HTW t0 t1 t2 c1 c2 c3 g3 HOK
      generalize ndB (kd, na, nb) t x (fun i => bs.getD i false) = r at *
      have HF : Hid ((bs ++ [r]).map Value.bool = bs.map Value.bool ++ [.bool r] ∧ (bs ++ [r]).length = bs.length + 1) := ⟨by simp, by simp⟩
      go_wp2_with (at_builtin; refine wpList_append_own _ rfl (.tmp 24) (.tmp 29) 81 rfl (w.heap.size + 1) 4 i0 _ 1 1 Try.underlying81 hi0 hz0 hz1 hz2 rfl (by omega) _ _ _ rfl (O3.out.alloc _) ⟨w3.heap.size, 0, none⟩ 1 1 [.bool r] rfl rfl (new1 _ _ _) (by intro u hu; simp at hu; subst hu; rfl) (by simp only [maxLen]; omega) (by omega) (by have := T3.out.1; simp; omega) ?_; intro v1 w4 hown hg1 _)
      go_roundw
      case rel =>
        refine ⟨k + 1, by omega, by go_num, (G3.out.alloc _).grown hg1 (fun k hk => by have := (O3.out.lt k hk).1; omega), (T3.out.alloc _).grown hg1 (fun k hk => by have := (O3.out.lt k hk).1; omega), ?_⟩
        rw [HS.out, HF.out.1, HF.out.2]
        exact hown
      case measure => simp [intOf]; omega
    · obtain rfl : k = l.length := by omega
      have HV : Hid ((atP (semL (l.take l.length)) t x)[l.length - 1]? = some (formP l t x)) := by
        rw [bool_at (by rw [hbl]; omega), atP_get, List.take_length]
        rfl
      have HO := Lib.hid hown
      have RB := RdB.own hown
      generalize atP (semL (l.take l.length)) t x = bs at *
      obtain ⟨ua, uc, rfl, huc, hbc⟩ := RB
      have hne : bs ≠ [] := by intro e; subst e; simp at hbl; omega
      rw [hbl] at *
      obtain ⟨vb, off, rfl, hvb, hcl⟩ := hbc hne
      have c1 := hcl _ _ HV.out
      have hsub : (l.length : Int) - 1 = ((l.length - 1 : Nat) : Int) := by omega
      have hlt1 : ((l.length - 1 : Nat) : Int) < (l.length : Int) := by omega
      clear hcl hown htwo HV hne
      obtain ⟨r, hr⟩ : ∃ r, formP l t x = r := ⟨_, rfl⟩
      rw [hr] at c1
      have HR := Lib.hid hr
      clear hr
      generalize l.length - 1 = m at *
      go_wp2_with fail
      go_ret2
      exact ⟨by rw [HR.out]; rfl, hg⟩
end Go.Proofs.Ythnoafmdecehcaa
