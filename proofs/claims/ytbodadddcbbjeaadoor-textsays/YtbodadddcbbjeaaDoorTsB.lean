/- The document's own reading of a number. -/
import Derived.Test.YtbodadddcbbjeaaDoorTsA
import Derived.BigQuiet
namespace Go.Proofs.YtbodadddcbbjeaaDoor
open Go.RowKit Rm
set_option linter.unusedVariables false
set_option linter.unusedSimpArgs false
/-- what number says -/
def NumSays (s : List UInt8) (w : World) (e : Ending) (w' : World) : Prop :=
  Gr w w' ∧ match rNum s with
  | none => e = .returned (.tuple #[.int .i64 0, .string (str s), .bool false])
  | some (a, r) => e = .returned (.tuple #[.int .i64 (a : Int), .string (str r), .bool true])
theorem rNum_none0 {s : List UInt8} (h : digs s = 0) : rNum s = none := by
  unfold rNum
  split
  · rfl
  · rw [if_neg (by omega)]
    split
    · rfl
    · rw [if_neg (by omega)]
theorem rNum_none3 {s : List UInt8} (h : 2 < digs s) : rNum s = none := by
  unfold rNum
  split
  · rfl
  · rw [if_neg (by omega)]
    split
    · rfl
    · rw [if_neg (by omega)]

set_option maxHeartbeats 8000000 in
set_option maxRecDepth 100000 in
theorem number_ref (s : List UInt8) (w : World) (hs : s.length ≤ 400) :
    Calls Tryd.prog 43 #[.string (str s)] w fun e w' => NumSays s w e w' := by
  have hz := str_size s
  have hs' : (s.length : Int) ≤ 400 := by omega
  go_enter Tryd.func43, Tryd.ntmps43
  go_wp2_with fail
  go_loop [5] (fun i => ∃ k : Nat, k ≤ s.length ∧ i = .int .i64 k ∧ Hid (digs s = k + digs (s.drop k))) (fun i => s.length - (intOf i).toNat)
  case atStart => exact ⟨0, by omega, rfl, by show digs s = 0 + digs (s.drop 0); simp⟩
  case round =>
    obtain ⟨k, hk, rfl, hd⟩ := hrel
    have hk4 : (k : Int) ≤ 400 := by omega
    have hk0 : (0 : Int) ≤ (k : Int) := by omega
    by_cases hlt : k < s.length
    · have hlt' : (k : Int) < (s.length : Int) := by omega
      obtain ⟨c, hc⟩ : ∃ c, s[k]? = some c := ⟨_, List.getElem?_eq_getElem hlt⟩
      have hi := run_str_get s k c hc
      have HC := Lib.hid hc
      cases hdc : digB c with
      | true =>
        have hb : 48 ≤ (c.toNat : Int) ∧ (c.toNat : Int) ≤ 57 := by simpa [digB] using hdc
        obtain ⟨hb1, hb2⟩ := hb
        clear hc
        go_wp2_with fail
        go_round
        case rel => exact ⟨k + 1, by omega, by go_num, digs_drop hd.out HC.out hdc⟩
        case measure => simp [intOf]; omega
      | false =>
        have he := digs_stop hd.out hc hdc
        clear hd hc HC
        by_cases hb1 : 48 ≤ (c.toNat : Int)
        · have hb2 : ¬ (c.toNat : Int) ≤ 57 := by intro h; simp [digB] at hdc; omega
          clear hdc
          rcases (by omega : k = 0 ∨ k = 1 ∨ k = 2 ∨ 2 < k) with q | q | q | q
          · have HE : Hid (rNum s = none) := rNum_none0 (by omega)
            have h1 : (k : Int) < 1 := by omega
            clear q
            go_wp2_with fail
            go_ret3
            exact ⟨Gr.refl _, by rw [HE.out]; rfl⟩
          · obtain ⟨c0, r0, rfl⟩ : ∃ c0 r0, s = c0 :: r0 := by cases s with | nil => simp at hk; omega | cons a b => exact ⟨a, b, rfl⟩
            have hd0 : digB c0 = true := by have h1 := he; simp only [digs] at h1; split at h1; assumption; omega
            have hb0 : 48 ≤ (c0.toNat : Int) ∧ (c0.toNat : Int) ≤ 57 := by simpa [digB] using hd0
            obtain ⟨hb01, hb02⟩ := hb0
            have HE : Hid (rNum (c0 :: r0) = some (c0.toNat - 48, r0) ∧ (c0 :: r0).drop k = r0) := ⟨by simp only [rNum]; rw [if_pos (by omega)], by rw [q]; rfl⟩
            have x0 := fun w => run_str_at (P := Tryd.prog) 9 c0 r0 w Tryd.underlying9
            have xd := run_str_drop (c0 :: r0) k hk
            have e0 : (c0.toNat : Int) - 48 = ((c0.toNat - 48 : Nat) : Int) := by omega
            have h1 : ¬ (k : Int) < 1 := by omega
            have h2 : ¬ (2 : Int) < (k : Int) := by omega
            have h3 : ((k : Int) == 2) = false := by rw [beq_eq_false_iff_ne]; omega
            clear q hd0
            go_wp2_with fail
            go_quiet (fail)
            go_wp2_with fail
            go_ret3
            exact ⟨(Gr.refl _).drewN _, by rw [HE.out.1, HE.out.2]; rfl⟩
          · obtain ⟨c0, c1, r0, rfl⟩ : ∃ c0 c1 r0, s = c0 :: c1 :: r0 := by
              match s, hk with
              | [], hk => simp at hk; omega
              | [a], hk => simp at hk; omega
              | a :: b :: t, _ => exact ⟨a, b, t, rfl⟩
            have hd0 : digB c0 = true := by have h1 := he; simp only [digs] at h1; split at h1; assumption; omega
            have hd1 : digB c1 = true := by have h1 := he; simp only [digs, hd0, if_true] at h1; split at h1; assumption; omega
            have hb0 : 48 ≤ (c0.toNat : Int) ∧ (c0.toNat : Int) ≤ 57 := by simpa [digB] using hd0
            obtain ⟨hb01, hb02⟩ := hb0
            have hb1 : 48 ≤ (c1.toNat : Int) ∧ (c1.toNat : Int) ≤ 57 := by simpa [digB] using hd1
            obtain ⟨hb11, hb12⟩ := hb1
            have x0 := fun w => run_str_at (P := Tryd.prog) 9 c0 (c1 :: r0) w Tryd.underlying9
            have x1 : ∀ w, (Instr.index 9 (.string (str (c0 :: c1 :: r0))) (.int .i64 1)).run Tryd.prog w = .ok (.int .u8 (c1.toNat : Int)) w := fun w => run_str_get (c0 :: c1 :: r0) 1 c1 rfl w
            have xd := run_str_drop (c0 :: c1 :: r0) k hk
            have h1 : ¬ (k : Int) < 1 := by omega
            have h2 : ¬ (2 : Int) < (k : Int) := by omega
            have h3 : ((k : Int) == 2) = true := by rw [beq_iff_eq]; omega
            by_cases hz0 : c0.toNat = 48
            · have HE : Hid (rNum (c0 :: c1 :: r0) = none) := by simp only [Hid, rNum]; rw [if_neg (by omega), if_neg (by omega)]
              have hz1 : ((c0.toNat : Int) == 48) = true := by rw [beq_iff_eq]; omega
              clear q hd0 hd1 hz0
              go_wp2_with fail
              go_ret3
              exact ⟨Gr.refl _, by rw [HE.out]; rfl⟩
            · have HE : Hid (rNum (c0 :: c1 :: r0) = some (10 * (c0.toNat - 48) + (c1.toNat - 48), r0) ∧ (c0 :: c1 :: r0).drop k = r0) := ⟨by simp only [rNum]; rw [if_neg (by omega), if_pos ⟨by omega, hz0⟩], by rw [q]; rfl⟩
              have hz1 : ((c0.toNat : Int) == 48) = false := by rw [beq_eq_false_iff_ne]; omega
              have e0 : 10 * ((c0.toNat : Int) - 48) + ((c1.toNat : Int) - 48) = ((10 * (c0.toNat - 48) + (c1.toNat - 48) : Nat) : Int) := by omega
              clear q hd0 hd1 hz0
              go_wp2_with fail
              go_quiet (fail)
              go_wp2_with fail
              go_ret3
              exact ⟨(Gr.refl _).drewN _, by rw [HE.out.1, HE.out.2]; first | rfl | (rw [← e0]; rfl)⟩
          · have HE : Hid (rNum s = none) := rNum_none3 (by omega)
            have h1 : ¬ (k : Int) < 1 := by omega
            have h2 : (2 : Int) < (k : Int) := by omega
            clear q
            go_wp2_with fail
            go_ret3
            exact ⟨Gr.refl _, by rw [HE.out]; rfl⟩
        · clear hdc
          rcases (by omega : k = 0 ∨ k = 1 ∨ k = 2 ∨ 2 < k) with q | q | q | q
          · have HE : Hid (rNum s = none) := rNum_none0 (by omega)
            have h1 : (k : Int) < 1 := by omega
            clear q
            go_wp2_with fail
            go_ret3
            exact ⟨Gr.refl _, by rw [HE.out]; rfl⟩
          · obtain ⟨c0, r0, rfl⟩ : ∃ c0 r0, s = c0 :: r0 := by cases s with | nil => simp at hk; omega | cons a b => exact ⟨a, b, rfl⟩
            have hd0 : digB c0 = true := by have h1 := he; simp only [digs] at h1; split at h1; assumption; omega
            have hb0 : 48 ≤ (c0.toNat : Int) ∧ (c0.toNat : Int) ≤ 57 := by simpa [digB] using hd0
            obtain ⟨hb01, hb02⟩ := hb0
            have HE : Hid (rNum (c0 :: r0) = some (c0.toNat - 48, r0) ∧ (c0 :: r0).drop k = r0) := ⟨by simp only [rNum]; rw [if_pos (by omega)], by rw [q]; rfl⟩
            have x0 := fun w => run_str_at (P := Tryd.prog) 9 c0 r0 w Tryd.underlying9
            have xd := run_str_drop (c0 :: r0) k hk
            have e0 : (c0.toNat : Int) - 48 = ((c0.toNat - 48 : Nat) : Int) := by omega
            have h1 : ¬ (k : Int) < 1 := by omega
            have h2 : ¬ (2 : Int) < (k : Int) := by omega
            have h3 : ((k : Int) == 2) = false := by rw [beq_eq_false_iff_ne]; omega
            clear q hd0
            go_wp2_with fail
            go_quiet (fail)
            go_wp2_with fail
            go_ret3
            exact ⟨(Gr.refl _).drewN _, by rw [HE.out.1, HE.out.2]; rfl⟩
          · obtain ⟨c0, c1, r0, rfl⟩ : ∃ c0 c1 r0, s = c0 :: c1 :: r0 := by
              match s, hk with
              | [], hk => simp at hk; omega
              | [a], hk => simp at hk; omega
              | a :: b :: t, _ => exact ⟨a, b, t, rfl⟩
            have hd0 : digB c0 = true := by have h1 := he; simp only [digs] at h1; split at h1; assumption; omega
            have hd1 : digB c1 = true := by have h1 := he; simp only [digs, hd0, if_true] at h1; split at h1; assumption; omega
            have hb0 : 48 ≤ (c0.toNat : Int) ∧ (c0.toNat : Int) ≤ 57 := by simpa [digB] using hd0
            obtain ⟨hb01, hb02⟩ := hb0
            have hb1 : 48 ≤ (c1.toNat : Int) ∧ (c1.toNat : Int) ≤ 57 := by simpa [digB] using hd1
            obtain ⟨hb11, hb12⟩ := hb1
            have x0 := fun w => run_str_at (P := Tryd.prog) 9 c0 (c1 :: r0) w Tryd.underlying9
            have x1 : ∀ w, (Instr.index 9 (.string (str (c0 :: c1 :: r0))) (.int .i64 1)).run Tryd.prog w = .ok (.int .u8 (c1.toNat : Int)) w := fun w => run_str_get (c0 :: c1 :: r0) 1 c1 rfl w
            have xd := run_str_drop (c0 :: c1 :: r0) k hk
            have h1 : ¬ (k : Int) < 1 := by omega
            have h2 : ¬ (2 : Int) < (k : Int) := by omega
            have h3 : ((k : Int) == 2) = true := by rw [beq_iff_eq]; omega
            by_cases hz0 : c0.toNat = 48
            · have HE : Hid (rNum (c0 :: c1 :: r0) = none) := by simp only [Hid, rNum]; rw [if_neg (by omega), if_neg (by omega)]
              have hz1 : ((c0.toNat : Int) == 48) = true := by rw [beq_iff_eq]; omega
              clear q hd0 hd1 hz0
              go_wp2_with fail
              go_ret3
              exact ⟨Gr.refl _, by rw [HE.out]; rfl⟩
            · have HE : Hid (rNum (c0 :: c1 :: r0) = some (10 * (c0.toNat - 48) + (c1.toNat - 48), r0) ∧ (c0 :: c1 :: r0).drop k = r0) := ⟨by simp only [rNum]; rw [if_neg (by omega), if_pos ⟨by omega, hz0⟩], by rw [q]; rfl⟩
              have hz1 : ((c0.toNat : Int) == 48) = false := by rw [beq_eq_false_iff_ne]; omega
              have e0 : 10 * ((c0.toNat : Int) - 48) + ((c1.toNat : Int) - 48) = ((10 * (c0.toNat - 48) + (c1.toNat - 48) : Nat) : Int) := by omega
              clear q hd0 hd1 hz0
              go_wp2_with fail
              go_quiet (fail)
              go_wp2_with fail
              go_ret3
              exact ⟨(Gr.refl _).drewN _, by rw [HE.out.1, HE.out.2]; first | rfl | (rw [← e0]; rfl)⟩
          · have HE : Hid (rNum s = none) := rNum_none3 (by omega)
            have h1 : ¬ (k : Int) < 1 := by omega
            have h2 : (2 : Int) < (k : Int) := by omega
            clear q
            go_wp2_with fail
            go_ret3
            exact ⟨Gr.refl _, by rw [HE.out]; rfl⟩
    · have he := digs_end hd.out (by omega)
      have hlt' : ¬ (k : Int) < (s.length : Int) := by omega
      clear hd
      rcases (by omega : k = 0 ∨ k = 1 ∨ k = 2 ∨ 2 < k) with q | q | q | q
      · have HE : Hid (rNum s = none) := rNum_none0 (by omega)
        have h1 : (k : Int) < 1 := by omega
        clear q
        go_wp2_with fail
        go_ret3
        exact ⟨Gr.refl _, by rw [HE.out]; rfl⟩
      · obtain ⟨c0, r0, rfl⟩ : ∃ c0 r0, s = c0 :: r0 := by cases s with | nil => simp at hk; omega | cons a b => exact ⟨a, b, rfl⟩
        have hd0 : digB c0 = true := by have h1 := he; simp only [digs] at h1; split at h1; assumption; omega
        have hb0 : 48 ≤ (c0.toNat : Int) ∧ (c0.toNat : Int) ≤ 57 := by simpa [digB] using hd0
        obtain ⟨hb01, hb02⟩ := hb0
        have HE : Hid (rNum (c0 :: r0) = some (c0.toNat - 48, r0) ∧ (c0 :: r0).drop k = r0) := ⟨by simp only [rNum]; rw [if_pos (by omega)], by rw [q]; rfl⟩
        have x0 := fun w => run_str_at (P := Tryd.prog) 9 c0 r0 w Tryd.underlying9
        have xd := run_str_drop (c0 :: r0) k hk
        have e0 : (c0.toNat : Int) - 48 = ((c0.toNat - 48 : Nat) : Int) := by omega
        have h1 : ¬ (k : Int) < 1 := by omega
        have h2 : ¬ (2 : Int) < (k : Int) := by omega
        have h3 : ((k : Int) == 2) = false := by rw [beq_eq_false_iff_ne]; omega
        clear q hd0
        go_wp2_with fail
        go_quiet (fail)
        go_wp2_with fail
        go_ret3
        exact ⟨(Gr.refl _).drewN _, by rw [HE.out.1, HE.out.2]; rfl⟩
      · obtain ⟨c0, c1, r0, rfl⟩ : ∃ c0 c1 r0, s = c0 :: c1 :: r0 := by
          match s, hk with
          | [], hk => simp at hk; omega
          | [a], hk => simp at hk; omega
          | a :: b :: t, _ => exact ⟨a, b, t, rfl⟩
        have hd0 : digB c0 = true := by have h1 := he; simp only [digs] at h1; split at h1; assumption; omega
        have hd1 : digB c1 = true := by have h1 := he; simp only [digs, hd0, if_true] at h1; split at h1; assumption; omega
        have hb0 : 48 ≤ (c0.toNat : Int) ∧ (c0.toNat : Int) ≤ 57 := by simpa [digB] using hd0
        obtain ⟨hb01, hb02⟩ := hb0
        have hb1 : 48 ≤ (c1.toNat : Int) ∧ (c1.toNat : Int) ≤ 57 := by simpa [digB] using hd1
        obtain ⟨hb11, hb12⟩ := hb1
        have x0 := fun w => run_str_at (P := Tryd.prog) 9 c0 (c1 :: r0) w Tryd.underlying9
        have x1 : ∀ w, (Instr.index 9 (.string (str (c0 :: c1 :: r0))) (.int .i64 1)).run Tryd.prog w = .ok (.int .u8 (c1.toNat : Int)) w := fun w => run_str_get (c0 :: c1 :: r0) 1 c1 rfl w
        have xd := run_str_drop (c0 :: c1 :: r0) k hk
        have h1 : ¬ (k : Int) < 1 := by omega
        have h2 : ¬ (2 : Int) < (k : Int) := by omega
        have h3 : ((k : Int) == 2) = true := by rw [beq_iff_eq]; omega
        by_cases hz0 : c0.toNat = 48
        · have HE : Hid (rNum (c0 :: c1 :: r0) = none) := by simp only [Hid, rNum]; rw [if_neg (by omega), if_neg (by omega)]
          have hz1 : ((c0.toNat : Int) == 48) = true := by rw [beq_iff_eq]; omega
          clear q hd0 hd1 hz0
          go_wp2_with fail
          go_ret3
          exact ⟨Gr.refl _, by rw [HE.out]; rfl⟩
        · have HE : Hid (rNum (c0 :: c1 :: r0) = some (10 * (c0.toNat - 48) + (c1.toNat - 48), r0) ∧ (c0 :: c1 :: r0).drop k = r0) := ⟨by simp only [rNum]; rw [if_neg (by omega), if_pos ⟨by omega, hz0⟩], by rw [q]; rfl⟩
          have hz1 : ((c0.toNat : Int) == 48) = false := by rw [beq_eq_false_iff_ne]; omega
          have e0 : 10 * ((c0.toNat : Int) - 48) + ((c1.toNat : Int) - 48) = ((10 * (c0.toNat - 48) + (c1.toNat - 48) : Nat) : Int) := by omega
          clear q hd0 hd1 hz0
          go_wp2_with fail
          go_quiet (fail)
          go_wp2_with fail
          go_ret3
          exact ⟨(Gr.refl _).drewN _, by rw [HE.out.1, HE.out.2]; first | rfl | (rw [← e0]; rfl)⟩
      · have HE : Hid (rNum s = none) := rNum_none3 (by omega)
        have h1 : ¬ (k : Int) < 1 := by omega
        have h2 : (2 : Int) < (k : Int) := by omega
        clear q
        go_wp2_with fail
        go_ret3
        exact ⟨Gr.refl _, by rw [HE.out]; rfl⟩
end Go.Proofs.YtbodadddcbbjeaaDoor
