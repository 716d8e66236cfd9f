/- The contract of the document's own Sentence. -/
import Derived.Test.YtbodadddcbbjeaaDoorFormA
namespace Rm
open Go Go.RowKit
theorem ear_within (a k : Int) : (decide (0 ≤ a) && decide (a ≤ k - 1)) = earB a k := by
  unfold earB
  rw [Bool.eq_iff_iff]
  simp
  omega
theorem tag_within (a : Int) : (decide (0 ≤ a) && decide (a ≤ 3)) = (decide (0 ≤ a) && decide (a < 4)) := by
  rw [Bool.eq_iff_iff]
  simp
  omega
theorem chkN_ok {k a b i : Int} (hk : kindB k = true) (h : okN (k, a, b) i = true) : chkN (k, a, b) i = 0 := by simp [chkN, hk, h]
theorem chkN_no {k a b i : Int} (hk : kindB k = true) (h : okN (k, a, b) i = false) : chkN (k, a, b) i = 1 := by simp [chkN, hk, h]
theorem chkN_kind {k a b i : Int} (hk : kindB k = false) : chkN (k, a, b) i = 3 := by simp [chkN, hk]
end Rm
namespace Go.Proofs.YtbodadddcbbjeaaDoor
open Go.RowKit Rm
set_option linter.unusedVariables false

set_option maxHeartbeats 400000 in
set_option maxRecDepth 100000 in
theorem rwithin_gen (x a b : Int) (w : World) :
    Calls Tryd.prog 24 #[.int .i64 x, .int .i64 a, .int .i64 b] w fun e w' => e = .returned (.bool (decide (a ≤ x) && decide (x ≤ b))) ∧ w = w' := by
  by_cases h1 : a ≤ x
  · by_cases h2 : x ≤ b
    · rw [show (decide (a ≤ x) && decide (x ≤ b)) = true from by simp [h1, h2]]
      go_enter Tryd.func24, Tryd.ntmps24
      go_wp2
      go_ret
      exact ⟨rfl, rfl⟩
    · rw [show (decide (a ≤ x) && decide (x ≤ b)) = false from by simp [h2]]
      go_enter Tryd.func24, Tryd.ntmps24
      go_wp2
      go_ret
      exact ⟨rfl, rfl⟩
  · rw [show (decide (a ≤ x) && decide (x ≤ b)) = false from by simp [h1]]
    go_enter Tryd.func24, Tryd.ntmps24
    go_wp2
    go_ret
    exact ⟨rfl, rfl⟩

set_option maxHeartbeats 4000000 in
set_option maxRecDepth 100000 in
theorem rsentence_any (v : Value) (l : List Nd) (w : World) (hr : RdN w v l) :
    Calls Tryd.prog 9 #[v] w fun e w' => e = .returned (.int .i64 (chkL l)) ∧ Gr w w' := by
  obtain ⟨a, cp, rfl, hcp, hx⟩ := hr
  cases hlen : (decide ((1 : Int) ≤ (l.length : Int)) && decide ((l.length : Int) ≤ 30))
  · have e : chkL l = 2 := by
      simp at hlen
      unfold chkL
      rw [if_pos (by omega)]
    rw [e]
    clear hx
    go_enter Tryd.func9, Tryd.ntmps9
    go_wp2_with fail
    refine (rwithin_gen _ _ _ _).mono ?_
    rw [hlen]
    rintro e w1 ⟨rfl, rfl⟩
    go_wp2_with fail
    go_ret
    exact ⟨rfl, Gr.refl _⟩
  · have hb : 1 ≤ l.length ∧ l.length ≤ 30 := by simp at hlen; omega
    have e : chkL l = chkNs 0 l := by unfold chkL; rw [if_neg (by omega)]
    rw [e]
    clear e
    have hl30 : (l.length : Int) ≤ 30 := by omega
    have HX := Lib.hid hx
    clear hx
    go_enter Tryd.func9, Tryd.ntmps9
    go_wp2_with fail
    refine (rwithin_gen _ _ _ _).mono ?_
    rw [hlen]
    rintro e w1 ⟨rfl, rfl⟩
    go_wp2_with fail
    go_loopw [12] (fun i wr => ∃ k : Nat, k ≤ l.length ∧ i = .int .i64 k ∧ Hid (chkNs 0 l = chkNs k (l.drop k)) ∧ Gr w wr) (fun i _ => l.length - (intOf i).toNat)
    case atStart => exact ⟨0, by omega, rfl, rfl, Gr.refl _⟩
    case round =>
      obtain ⟨k, hk, rfl, he, hg⟩ := hrel
      by_cases hlt : k < l.length
      · obtain ⟨⟨kd, na, nb⟩, hp⟩ : ∃ p, l[k]? = some p := ⟨_, List.getElem?_eq_getElem hlt⟩
        obtain ⟨b, off, rfl, hbb, hcell⟩ := HX.out (by intro e; rw [e] at hlt; simp at hlt)
        obtain ⟨c1, c2, c3⟩ := hcell k _ hp
        rw [← hg.cells.1 b _ hbb] at c1 c2 c3
        simp only at c1 c2 c3
        have hbr : b < wr.heap.size := Nat.lt_of_lt_of_le hbb hg.le
        have hk30 : (k : Int) < 30 := by omega
        have HE := Lib.hid (he.out.trans (chkNs_drop hp))
        have G1 := hg.alloc (.cells #[.int .i64 kd, .int .i64 na, .int .i64 nb] 30)
        clear hcell hp he
        cases hkd : kindB kd
        · obtain ⟨k1, k2, k3, k4, k5, k6⟩ := kind_no hkd
          have HF : Hid (chkNs 0 l = 3) := by unfold Hid; rw [HE.out, chkN_kind hkd]; rfl
          clear HE hkd
          go_wp2_with fail
          go_ret
          exact ⟨by rw [HF.out]; rfl, G1⟩
        · have hk' : kd = 1 ∨ kd = 2 ∨ kd = 3 ∨ kd = 4 ∨ kd = 5 ∨ kd = 6 := by simp [kindB] at hkd; omega
          cases hok : okN (kd, na, nb) (k : Int)

          · have HF : Hid (chkNs 0 l = 1) := by unfold Hid; rw [HE.out, chkN_no hkd hok]; rfl
            clear HE hkd
            rcases hk' with rfl | rfl | rfl | rfl | rfl | rfl
            · cases hok
            · have h1 : (decide (0 ≤ na) && decide (na ≤ 3)) = false := by rw [tag_within]; exact hok
              clear hok
              go_wp2_with fail
              refine (rwithin_gen _ _ _ _).mono ?_
              rw [h1]
              rintro e w1 ⟨rfl, rfl⟩
              go_wp2_with fail
              go_ret
              exact ⟨by rw [HF.out]; rfl, G1⟩
            · have hno : ¬ (0 ≤ na ∧ nb ≤ 32 ∧ na < nb) := by simp [okN] at hok; omega
              clear hok
              by_cases h1 : 0 ≤ na
              · by_cases h2 : nb ≤ 32
                · have h3 : ¬ na < nb := by omega
                  go_wp2_with fail
                  go_ret
                  exact ⟨by rw [HF.out]; rfl, G1⟩
                · skip
                  go_wp2_with fail
                  go_ret
                  exact ⟨by rw [HF.out]; rfl, G1⟩
              · skip
                go_wp2_with fail
                go_ret
                exact ⟨by rw [HF.out]; rfl, G1⟩
            · have h1 : (decide (0 ≤ na) && decide (na ≤ (k : Int) - 1)) = false := by rw [ear_within]; exact hok
              clear hok
              go_wp2_with fail
              refine (rwithin_gen _ _ _ _).mono ?_
              rw [h1]
              rintro e w1 ⟨rfl, rfl⟩
              go_wp2_with fail
              go_ret
              exact ⟨by rw [HF.out]; rfl, G1⟩
            · cases ha : earB na (k : Int)
              · rw [← ear_within] at ha
                clear hok
                go_wp2_with fail
                refine (rwithin_gen _ _ _ _).mono ?_
                rw [ha]
                rintro e w1 ⟨rfl, rfl⟩
                go_wp2_with fail
                go_ret
                exact ⟨by rw [HF.out]; rfl, G1⟩
              · have hb : earB nb (k : Int) = false := by simp [okN, ha] at hok; exact hok
                rw [← ear_within] at ha hb
                clear hok
                go_wp2_with fail
                refine (rwithin_gen _ _ _ _).mono ?_
                rw [ha]
                rintro e w1 ⟨rfl, rfl⟩
                go_wp2_with fail
                refine (rwithin_gen _ _ _ _).mono ?_
                rw [hb]
                rintro e w1 ⟨rfl, rfl⟩
                go_wp2_with fail
                go_ret
                exact ⟨by rw [HF.out]; rfl, G1⟩
            · cases ha : earB na (k : Int)
              · rw [← ear_within] at ha
                clear hok
                go_wp2_with fail
                refine (rwithin_gen _ _ _ _).mono ?_
                rw [ha]
                rintro e w1 ⟨rfl, rfl⟩
                go_wp2_with fail
                go_ret
                exact ⟨by rw [HF.out]; rfl, G1⟩
              · have hb : earB nb (k : Int) = false := by simp [okN, ha] at hok; exact hok
                rw [← ear_within] at ha hb
                clear hok
                go_wp2_with fail
                refine (rwithin_gen _ _ _ _).mono ?_
                rw [ha]
                rintro e w1 ⟨rfl, rfl⟩
                go_wp2_with fail
                refine (rwithin_gen _ _ _ _).mono ?_
                rw [hb]
                rintro e w1 ⟨rfl, rfl⟩
                go_wp2_with fail
                go_ret
                exact ⟨by rw [HF.out]; rfl, G1⟩
          · have HF : Hid (chkNs 0 l = chkNs (k + 1) (l.drop (k + 1))) := by unfold Hid; rw [HE.out, chkN_ok hkd hok]; rfl
            clear HE hkd
            rcases hk' with rfl | rfl | rfl | rfl | rfl | rfl
            · go_wp2_with fail
              go_roundw
              case rel => exact ⟨k + 1, by omega, by go_num, HF, G1⟩
              case measure => simp [intOf]; omega
            · have h1 : (decide (0 ≤ na) && decide (na ≤ 3)) = true := by rw [tag_within]; exact hok
              clear hok
              go_wp2_with fail
              refine (rwithin_gen _ _ _ _).mono ?_
              rw [h1]
              rintro e w1 ⟨rfl, rfl⟩
              go_wp2_with fail
              go_roundw
              case rel => exact ⟨k + 1, by omega, by go_num, HF, G1⟩
              case measure => simp [intOf]; omega
            · obtain ⟨h1, h2, h3⟩ : 0 ≤ na ∧ nb ≤ 32 ∧ na < nb := by simp [okN] at hok; omega
              clear hok
              go_wp2_with fail
              go_roundw
              case rel => exact ⟨k + 1, by omega, by go_num, HF, G1⟩
              case measure => simp [intOf]; omega
            · have h1 : (decide (0 ≤ na) && decide (na ≤ (k : Int) - 1)) = true := by rw [ear_within]; exact hok
              clear hok
              go_wp2_with fail
              refine (rwithin_gen _ _ _ _).mono ?_
              rw [h1]
              rintro e w1 ⟨rfl, rfl⟩
              go_wp2_with fail
              go_roundw
              case rel => exact ⟨k + 1, by omega, by go_num, HF, G1⟩
              case measure => simp [intOf]; omega
            · have ha : earB na (k : Int) = true := by simp [okN] at hok; exact hok.1
              have hb : earB nb (k : Int) = true := by simp [okN] at hok; exact hok.2
              rw [← ear_within] at ha hb
              clear hok
              go_wp2_with fail
              refine (rwithin_gen _ _ _ _).mono ?_
              rw [ha]
              rintro e w1 ⟨rfl, rfl⟩
              go_wp2_with fail
              refine (rwithin_gen _ _ _ _).mono ?_
              rw [hb]
              rintro e w1 ⟨rfl, rfl⟩
              go_wp2_with fail
              go_roundw
              case rel => exact ⟨k + 1, by omega, by go_num, HF, G1⟩
              case measure => simp [intOf]; omega
            · have ha : earB na (k : Int) = true := by simp [okN] at hok; exact hok.1
              have hb : earB nb (k : Int) = true := by simp [okN] at hok; exact hok.2
              rw [← ear_within] at ha hb
              clear hok
              go_wp2_with fail
              refine (rwithin_gen _ _ _ _).mono ?_
              rw [ha]
              rintro e w1 ⟨rfl, rfl⟩
              go_wp2_with fail
              refine (rwithin_gen _ _ _ _).mono ?_
              rw [hb]
              rintro e w1 ⟨rfl, rfl⟩
              go_wp2_with fail
              go_roundw
              case rel => exact ⟨k + 1, by omega, by go_num, HF, G1⟩
              case measure => simp [intOf]; omega
      · obtain rfl : k = l.length := by omega
        have HF : Hid (chkNs 0 l = 0) := by unfold Hid; rw [he.out, List.drop_length]; rfl
        clear he
        go_wp2_with fail
        go_ret
        exact ⟨by rw [HF.out]; rfl, hg⟩
end Go.Proofs.YtbodadddcbbjeaaDoor
