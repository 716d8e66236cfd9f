/- slices.Clone at integers; know.trim. -/
import Derived.Test.YtghjfakellaecaaKnA
namespace Rm
open Go Go.RowKit
def five (v : List Nat) : List Nat := [cv v 0, cv v 1, cv v 2, cv v 3, cv v 4]
def flatI (v : List Nat) : List Value := v.map fun (x : Nat) => Value.int .i64 (x : Int)
theorem five_at (v : List Nat) (j : Nat) (h : j < 5) : (five v)[j]? = some (cv v j) := by
  match j, h with
  | 0, _ => rfl
  | 1, _ => rfl
  | 2, _ => rfl
  | 3, _ => rfl
  | 4, _ => rfl
theorem cv_five (v : List Nat) (s : Nat) : cv (five v) s = if s < 5 then cv v s else 0 := by
  by_cases h : s < 5
  · rw [if_pos h]; unfold cv; rw [List.getD_eq_getElem?_getD]; have := five_at v s h; rw [this]; rfl
  · rw [if_neg h]; exact cv_out (by simp [five]; omega)
theorem trim_take (v : List Nat) (n : Nat) (hn : n ≤ 5) (hz : ∀ s, n ≤ s → s < 5 → cv v s = 0) (h : n = 0 ∨ cv v (n - 1) ≠ 0) : trimL (five v) = (five v).take n := by
  refine vec_ext (trimL_last _) ?_ (fun s => ?_)
  · rcases h with rfl | h
    · simp
    · by_cases h0 : n = 0
      · subst h0; simp
      · rw [List.getLast?_take, if_neg h0, five_at v (n - 1) (by omega)]
        simpa using h
  · rw [trimL_cv, cv_five]
    by_cases hs : s < n
    · rw [if_pos (by omega)]
      unfold cv
      rw [List.getD_eq_getElem?_getD, List.getD_eq_getElem?_getD, List.getElem?_take_of_lt hs]
      have := five_at v s (by omega)
      rw [this]
      simp [cv]
    · rw [cv_out (v := (five v).take n) (by simp; omega)]
      by_cases h5 : s < 5
      · rw [if_pos h5]; exact hz s (by omega) h5
      · rw [if_neg h5]
theorem own_less {w : World} {b b' : Nat} {e : TypeId} {s n : Nat} {v : Value} {xs : List Value} (h : w.ownsRow b e s v n xs) (hb : b' ≤ b) : w.ownsRow b' e s v n xs := by
  obtain ⟨h1, h2 | ⟨g, cap, cur, e, h3, h4⟩⟩ := h
  · exact ⟨h1, .inl h2⟩
  · exact ⟨h1, .inr ⟨g, cap, cur, e, Nat.le_trans hb h3, h4⟩⟩
end Rm
namespace Go.Proofs.Ytghjfakellaecaa
open Go.RowKit Rm
set_option linter.unusedVariables false
set_option linter.unusedSimpArgs false
theorem cArr_at (v : List Nat) (s : Nat) (hs : s < 5) : (cArr v)[s]? = some (.int .i64 (cv v s : Nat)) := by
  match s, hs with
  | 0, _ => rfl
  | 1, _ => rfl
  | 2, _ => rfl
  | 3, _ => rfl
  | 4, _ => rfl
theorem iinfo : (Try.prog.info? 3).map (fun i => (i.zero, i.size, i.bytes)) = some (some (.int .i64 0), 1, 8) := by kernel_rfl
set_option maxHeartbeats 400000 in
set_option maxRecDepth 100000 in
theorem cloneI {w : World} {v : Value} {n : Nat} {xs : List Value} (hr : RdC 1 w v n xs) (hn : n ≤ 1000) :
    Calls Try.prog 26 #[v] w fun e w' => ∃ u, e = .returned u ∧ w'.ownsRow w.heap.size 3 1 u n xs ∧ Gr w w' := by
  obtain ⟨i0, hi0, hz0, hz1, hz2⟩ := info_parts iinfo
  obtain ⟨hxl, hone, ⟨rfl, rfl⟩ | ⟨ad, c, rfl, hc, hb, hx⟩⟩ := hr
  · have hq : ∀ wx : World, (binOp .eql 32 (.slice none 0 0) (.slice none 0 0)).run Try.prog wx = .ok (.bool true) wx := fun wx => by
      have := Lib.run_eql_slice_nil (P := Try.prog) wx 32 _ none 0 0 0 0 Try.underlying32
      simpa using this
    go_enter Try.func26, Try.ntmps26
    go_wp2_with fail
    go_ret
    exact ⟨_, rfl, ⟨hxl, .inl ⟨rfl, rfl⟩⟩, Gr.refl _⟩
  · have HC : Hid (∀ j u, xs[j]? = some u → (w.alloc (.cells #[] 3)).cell? (ad.add j) = some u) := fun j u hj => by
      have hn0 : n ≠ 0 := by rintro rfl; rw [Nat.zero_mul] at hxl; rw [List.eq_nil_of_length_eq_zero hxl] at hj; simp at hj
      have hb2 : (ad.add j).block < w.heap.size := by have := hb hn0; unfold Addr.add; split <;> simpa using this
      exact (World.cell?_of_block (Below.block ((Gr.refl w).alloc _) _ hb2)).trans (hx j u hj)
    have HO : Hid ((w.alloc (.cells #[] 3)).ownsRow w.heap.size 3 1 (.slice (some ⟨w.heap.size, 0, none⟩) 0 0) 0 []) := World.ownsRow_made w #[] 0 (Nat.le_refl _) (by simp [maxLen]) rfl
    have HF := Lib.hid hxl
    have H1 := Lib.hid hone
    have hq : ∀ wx : World, (binOp .eql 32 (.slice (some ad) n c) (.slice none 0 0)).run Try.prog wx = .ok (.bool false) wx := fun wx => by
      have := Lib.run_eql_slice_nil (P := Try.prog) wx 32 _ (some ad) n c 0 0 Try.underlying32
      simpa using this
    clear hx hone hxl
    go_enter Try.func26, Try.ntmps26
    go_wp2_with (at_builtin; refine wpList_append_own _ rfl (.tmp 5) (.tmp 6) 32 rfl w.heap.size 3 i0 _ 1 8 Try.underlying32 hi0 hz0 hz1 hz2 rfl (by omega) _ _ _ rfl HO.out ad n c xs rfl HF.out HC.out H1.out (by simp only [maxLen]; omega) (by omega) (by simp) ?_; intro v1 w4 hown hg1 _)
    go_ret
    refine ⟨v1, rfl, ?_, ((Gr.refl w).alloc _).grown hg1 (fun k hk => (HO.out.lt k hk).1)⟩
    rw [Nat.zero_add, List.nil_append] at hown
    exact hown
set_option maxHeartbeats 1000000 in
set_option maxRecDepth 100000 in
theorem slice_counts (g n : Nat) (hn : n ≤ 5) (w : World) : (Instr.sliceAt 108 (.pointer (some ⟨g, 0, none⟩)) none (some (.int .i64 (n : Int))) none).run Try.prog w = .ok (.slice (some ⟨g, 0, none⟩) n 5) w := by
  match n, hn with
  | 0, _ => go_simp
  | 1, _ => go_simp
  | 2, _ => go_simp
  | 3, _ => go_simp
  | 4, _ => go_simp
  | 5, _ => go_simp
set_option maxHeartbeats 2000000 in
set_option maxRecDepth 100000 in
theorem trim_any (v : List Nat) (w : World) (hv : ∀ s, s < 5 → cv v s ≤ 1000) :
    Calls Try.prog 96 #[.agg (cArr v)] w fun e w' => ∃ u, e = .returned u ∧ w'.ownsRow w.heap.size 3 1 u (trimL (five v)).length (flatI (trimL (five v))) ∧ Gr w w' := by
  have G1 := Lib.hid ((Gr.refl w).alloc (.cells (cArr v) 108))
  have B1 : Hid ((w.alloc (.cells (cArr v) 108)).heap[w.heap.size]? = some (.cells (cArr v) 108 (0, 0))) := al_new _ _ _ rfl
  have HV := Lib.hid hv
  clear hv
  go_enter Try.func96, Try.ntmps96
  go_wp2
  generalize w.alloc (.cells (cArr v) 108) = w1 at *
  go_loop [3, 4, 5, 6, 7, 8, 9, 10, 11, 12, 13, 14] (fun i _ _ _ _ _ _ _ _ _ _ _ => ∃ n : Nat, n ≤ 5 ∧ i = .int .i64 n ∧ ∀ s, n ≤ s → s < 5 → cv v s = 0) (fun i _ _ _ _ _ _ _ _ _ _ _ => (intOf i).toNat)
  case atStart => exact ⟨5, by omega, rfl, fun s h1 h2 => by omega⟩
  case round =>
    obtain ⟨n, hn, rfl, hz⟩ := hrel
    have HZ := Lib.hid hz
    have hnI : (n : Int) ≤ 5 := by omega
    clear hz
    have key : (n = 0 ∨ cv v (n - 1) ≠ 0) → Hid (∃ ad : Addr, True) → Hid (trimL (five v) = (five v).take n) := fun h _ => trim_take v n hn HZ.out h
    have HT : Hid (∀ c, n ≤ c → trimL (five v) = (five v).take n → Calls Try.prog 26 #[.slice (some ⟨w.heap.size, 0, none⟩) n c] w1 fun e w' => ∃ u, e = .returned u ∧ w'.ownsRow w1.heap.size 3 1 u (trimL (five v)).length (flatI (trimL (five v))) ∧ Gr w1 w') := fun c hc e => by
      have hlen : (trimL (five v)).length = n := by rw [e]; simp [five]; omega
      rw [hlen]
      refine cloneI ⟨by simp [flatI, hlen], by simp [flatI, Value.oneCell'], .inr ⟨_, c, rfl, hc, fun _ => (Array.getElem?_eq_some_iff.1 B1.out).1, fun j u hj => ?_⟩⟩ (by omega)
      rw [adn, Nat.zero_add]
      have hj' : j < n := by
        have := (List.getElem?_eq_some_iff.1 hj).1
        simp [flatI, hlen] at this; exact this
      rw [e] at hj
      simp only [flatI, List.getElem?_map] at hj
      rw [List.getElem?_take_of_lt hj', five_at v j (by omega)] at hj
      simp only [Option.map_some, Option.some.injEq] at hj
      subst hj
      simp only [World.cell?, B1.out]
      exact cArr_at v j (by omega)
    by_cases h0 : n = 0
    · subst h0
      have HE := Lib.hid (trim_take v 0 (by omega) HZ.out (.inl rfl))
      clear key
      go_wp2_with (go_at_call 26; refine (HT.out _ (by omega) HE.out).mono ?_; rintro e w2 ⟨u, rfl, ho, g2⟩)
      go_ret
      exact ⟨u, rfl, own_less ho G1.out.le, G1.out.trans g2⟩
    · obtain ⟨k, rfl⟩ : ∃ k, n = k + 1 := ⟨n - 1, by omega⟩
      have hc : w1.cell? ⟨w.heap.size, k, none⟩ = some (.int .i64 (cv v k : Nat)) := by
        simp only [World.cell?, B1.out]; exact cArr_at v k (by omega)
      have hkI : (k : Int) < 5 := by omega
      have hk1 : ((k + 1 : Nat) : Int) - 1 = (k : Int) := by omega
      by_cases hk0 : cv v k = 0
      · rw [hk0] at hc
        have HN : Hid (∀ s, k ≤ s → s < 5 → cv v s = 0) := fun s h1 h2 => by
          by_cases e : s = k
          · subst e; exact hk0
          · exact HZ.out s (by omega) h2
        clear key HT
        go_wp2
        go_round
        case rel => exact ⟨k, by omega, by go_num, HN.out⟩
        case measure => simp [intOf]
      · have HE := Lib.hid (trim_take v (k + 1) hn HZ.out (.inr (by simpa using hk0)))
        have hne : ¬ ((cv v k : Nat) : Int) = 0 := by omega
        have hsl : ∀ wx, (Instr.sliceAt 108 (.pointer (some ⟨w.heap.size, 0, none⟩)) none (some (.int .i64 ((k : Int) + 1))) none).run Try.prog wx = .ok (.slice (some ⟨w.heap.size, 0, none⟩) (k + 1) 5) wx := fun wx => slice_counts w.heap.size (k + 1) hn wx
        clear key
        go_wp2_with (go_at_call 26; refine (HT.out _ (by omega) HE.out).mono ?_; rintro e w2 ⟨u, rfl, ho, g2⟩)
        go_ret
        exact ⟨u, rfl, own_less ho G1.out.le, G1.out.trans g2⟩
end Go.Proofs.Ytghjfakellaecaa
