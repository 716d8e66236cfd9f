/- Whatever the input: what Join, Meet, Less, Every, formula.Filter, formula.Of and span.Of answer lies in new memory. slices.Clone over spans. -/
import Derived.Test.YtbodadddcbbjeaaOwnG
namespace Go.Proofs.Ytbodadddcbbjeaa
open Go.RowKit Rm
set_option linter.unusedVariables false

set_option maxHeartbeats 1000000 in
set_option maxRecDepth 100000 in
theorem fjoin_badO {v v' : Value} {l r : List BoxI} {w : World} (hl : RdF w v l) (hr : RdF w v' r) (hc : (chkF2 l r == 0) = false) :
    Calls Try.prog 12 #[v, v'] w fun e w' => ∃ u, e = .returned (.tuple #[u, .int .i64 (chkF2 l r)]) ∧ FO w.heap.size 16 w' u (fun _ => 0) ∧ Gr w w' := by
  have HS : Hid ((Try.prog.info? 64).map (·.size) = some (tArr fun _ => 0).size) := by rw [tArr_size]; exact table_info
  have H1 := Lib.hid (tArr_one fun _ => 0)
  have HCC := Lib.hid (fcombine_bad 39 v v' l r w hl hr hc)
  clear hl hr hc
  go_enter Try.func12, Try.ntmps12
  go_wp2_with fail
  refine HCC.out.mono ?_
  rintro e w1 ⟨rfl, g1⟩
  go_wp2_with (first
    | (refine wpList_store_row rfl 64 (.tmp 6) (.tmp 12) rfl w1.heap.size (tArr fun _ => 0) rfl rfl 64 _ (heap_alloc_new _ _) HS.out rfl H1.out ?_)
    | (refine wpList_load_row rfl 64 _ rfl w1.heap.size rfl 64 (tArr fun _ => 0) (0, 0) _ (setRow_heap _ _ _ _ _ _ (heap_alloc_new _ _)) Try.underlying64 rfl HS.out ?_))
  refine (boxes_own (fun t _ => by decide)).mono ?_
  rintro e w2 ⟨u, rfl, hu, g2⟩
  go_wp2_with fail
  go_ret2
  exact ⟨u, rfl, hu.base ((g1.alloc _).setRow g1.le _).le, ((g1.alloc _).setRow g1.le _).trans g2⟩
theorem fjoin_res {v v' : Value} {l r : List BoxI} {w : World} (hl : RdF w v l) (hr : RdF w v' r) :
    Calls Try.prog 12 #[v, v'] w fun e w' => ∃ u c, e = .returned (.tuple #[u, .int .i64 c]) ∧ Gr w w' ∧ FRes w.heap.size w'.heap.size w' u := by
  cases hc : (chkF2 l r == 0)
  · exact (fjoin_badO hl hr hc).mono fun e w' ⟨u, he, hu, g⟩ => ⟨u, _, he, g, hu.res (by omega)⟩
  · obtain ⟨T, U, h1, h2, _⟩ := fs2_of hl hr hc
    exact (fjoin_own h1 h2).mono fun e w' ⟨u, he, hu, g⟩ => ⟨u, _, he, g, hu.res (by omega)⟩

set_option maxHeartbeats 1000000 in
set_option maxRecDepth 100000 in
theorem fmeet_badO {v v' : Value} {l r : List BoxI} {w : World} (hl : RdF w v l) (hr : RdF w v' r) (hc : (chkF2 l r == 0) = false) :
    Calls Try.prog 11 #[v, v'] w fun e w' => ∃ u, e = .returned (.tuple #[u, .int .i64 (chkF2 l r)]) ∧ FO w.heap.size 16 w' u (fun _ => 0) ∧ Gr w w' := by
  have HS : Hid ((Try.prog.info? 64).map (·.size) = some (tArr fun _ => 0).size) := by rw [tArr_size]; exact table_info
  have H1 := Lib.hid (tArr_one fun _ => 0)
  have HCC := Lib.hid (fcombine_bad 38 v v' l r w hl hr hc)
  clear hl hr hc
  go_enter Try.func11, Try.ntmps11
  go_wp2_with fail
  refine HCC.out.mono ?_
  rintro e w1 ⟨rfl, g1⟩
  go_wp2_with (first
    | (refine wpList_store_row rfl 64 (.tmp 6) (.tmp 12) rfl w1.heap.size (tArr fun _ => 0) rfl rfl 64 _ (heap_alloc_new _ _) HS.out rfl H1.out ?_)
    | (refine wpList_load_row rfl 64 _ rfl w1.heap.size rfl 64 (tArr fun _ => 0) (0, 0) _ (setRow_heap _ _ _ _ _ _ (heap_alloc_new _ _)) Try.underlying64 rfl HS.out ?_))
  refine (boxes_own (fun t _ => by decide)).mono ?_
  rintro e w2 ⟨u, rfl, hu, g2⟩
  go_wp2_with fail
  go_ret2
  exact ⟨u, rfl, hu.base ((g1.alloc _).setRow g1.le _).le, ((g1.alloc _).setRow g1.le _).trans g2⟩
theorem fmeet_res {v v' : Value} {l r : List BoxI} {w : World} (hl : RdF w v l) (hr : RdF w v' r) :
    Calls Try.prog 11 #[v, v'] w fun e w' => ∃ u c, e = .returned (.tuple #[u, .int .i64 c]) ∧ Gr w w' ∧ FRes w.heap.size w'.heap.size w' u := by
  cases hc : (chkF2 l r == 0)
  · exact (fmeet_badO hl hr hc).mono fun e w' ⟨u, he, hu, g⟩ => ⟨u, _, he, g, hu.res (by omega)⟩
  · obtain ⟨T, U, h1, h2, _⟩ := fs2_of hl hr hc
    exact (fmeet_own h1 h2).mono fun e w' ⟨u, he, hu, g⟩ => ⟨u, _, he, g, hu.res (by omega)⟩

set_option maxHeartbeats 1000000 in
set_option maxRecDepth 100000 in
theorem fless_badO {v v' : Value} {l r : List BoxI} {w : World} (hl : RdF w v l) (hr : RdF w v' r) (hc : (chkF2 l r == 0) = false) :
    Calls Try.prog 8 #[v, v'] w fun e w' => ∃ u, e = .returned (.tuple #[u, .int .i64 (chkF2 l r)]) ∧ FO w.heap.size 16 w' u (fun _ => 0) ∧ Gr w w' := by
  have HS : Hid ((Try.prog.info? 64).map (·.size) = some (tArr fun _ => 0).size) := by rw [tArr_size]; exact table_info
  have H1 := Lib.hid (tArr_one fun _ => 0)
  have HCC := Lib.hid (fcombine_bad 35 v v' l r w hl hr hc)
  clear hl hr hc
  go_enter Try.func8, Try.ntmps8
  go_wp2_with fail
  refine HCC.out.mono ?_
  rintro e w1 ⟨rfl, g1⟩
  go_wp2_with (first
    | (refine wpList_store_row rfl 64 (.tmp 6) (.tmp 12) rfl w1.heap.size (tArr fun _ => 0) rfl rfl 64 _ (heap_alloc_new _ _) HS.out rfl H1.out ?_)
    | (refine wpList_load_row rfl 64 _ rfl w1.heap.size rfl 64 (tArr fun _ => 0) (0, 0) _ (setRow_heap _ _ _ _ _ _ (heap_alloc_new _ _)) Try.underlying64 rfl HS.out ?_))
  refine (boxes_own (fun t _ => by decide)).mono ?_
  rintro e w2 ⟨u, rfl, hu, g2⟩
  go_wp2_with fail
  go_ret2
  exact ⟨u, rfl, hu.base ((g1.alloc _).setRow g1.le _).le, ((g1.alloc _).setRow g1.le _).trans g2⟩
theorem fless_res {v v' : Value} {l r : List BoxI} {w : World} (hl : RdF w v l) (hr : RdF w v' r) :
    Calls Try.prog 8 #[v, v'] w fun e w' => ∃ u c, e = .returned (.tuple #[u, .int .i64 c]) ∧ Gr w w' ∧ FRes w.heap.size w'.heap.size w' u := by
  cases hc : (chkF2 l r == 0)
  · exact (fless_badO hl hr hc).mono fun e w' ⟨u, he, hu, g⟩ => ⟨u, _, he, g, hu.res (by omega)⟩
  · obtain ⟨T, U, h1, h2, _⟩ := fs2_of hl hr hc
    exact (fless_own h1 h2).mono fun e w' ⟨u, he, hu, g⟩ => ⟨u, _, he, g, hu.res (by omega)⟩

theorem fevery_res (w : World) : Calls Try.prog 9 #[] w fun e w' => ∃ u, e = .returned u ∧ Gr w w' ∧ FRes w.heap.size w'.heap.size w' u :=
  (fevery_own w).mono fun e w' ⟨u, he, hu, g⟩ => ⟨u, he, g, hu.res (by omega)⟩
theorem lfilter_res {v : Value} {l : List Nd} {w : World} (hr : RdN w v l) :
    Calls Try.prog 7 #[v] w fun e w' => ∃ u c, e = .returned (.tuple #[u, .int .i64 c]) ∧ Gr w w' ∧ FRes w.heap.size w'.heap.size w' u := by
  cases hc : (chkL l == 0)
  · exact (lfilter_bad hr hc).mono fun e w' ⟨he, g⟩ => ⟨_, _, he, g, FRes.nil _ _ _⟩
  · exact (lfilter_ok hr (okL_of (by simpa using hc))).mono fun e w' ⟨u, he, ⟨T, hu, _⟩, g⟩ => ⟨u, _, he, g, hu.res (by omega)⟩
/-- nodes that are answered -/
def NRes (lo hi : Nat) (w : World) (v : Value) : Prop := ∃ l : List Nd, l.length ≤ 30 ∧ RowIn lo hi w 40 3 v l.length (flatN l)
theorem NRes.nil (lo hi : Nat) (w : World) : NRes lo hi w (.slice none 0 0) := ⟨[], by simp, ⟨rfl, .inl ⟨rfl, rfl⟩⟩, fun g e => by cases e⟩
theorem lof_res {v : Value} {l : List BoxI} {w : World} (hr : RdF w v l) :
    Calls Try.prog 17 #[v] w fun e w' => ∃ u c, e = .returned (.tuple #[u, .int .i64 c]) ∧ Gr w w' ∧ NRes w.heap.size w'.heap.size w' u := by
  cases hc : (chkF l == 0)
  · exact (lof_bad hr hc).mono fun e w' ⟨he, g⟩ => ⟨_, _, he, g, NRes.nil _ _ _⟩
  · obtain ⟨F, rfl, hF, hn⟩ := okF_of (by simpa using hc)
    refine (lof_any hr hF hn).mono fun e w' ⟨g, h⟩ => ?_
    rcases h with ⟨_, he⟩ | ⟨hl, u, he, ho⟩
    · exact ⟨_, _, he, g, NRes.nil _ _ _⟩
    · exact ⟨_, _, he, g, _, hl, RowIn.of ho⟩
/-- spans that are answered -/
def SRes (lo hi : Nat) (w : World) (v : Value) : Prop := ∃ l : List (Int × Int), l.length ≤ 16 ∧ RowIn lo hi w 53 2 v l.length (flat l)
theorem SRes.nil (lo hi : Nat) (w : World) : SRes lo hi w (.slice none 0 0) := ⟨[], by simp, ⟨rfl, .inl ⟨rfl, rfl⟩⟩, fun g e => by cases e⟩
theorem of_res {v : Value} {l : List Int} {w : World} (hr : Rd1 w v l) :
    Calls Try.prog 18 #[v] w fun e w' => ∃ u c, e = .returned (.tuple #[u, .int .i64 c]) ∧ Gr w w' ∧ SRes w.heap.size w'.heap.size w' u := by
  by_cases hn : l.length ≤ 400
  · refine (of_any v l w hr hn).mono fun e w' h => ?_
    rcases h with ⟨_, he, g⟩ | ⟨_, u, he, ⟨g, ho⟩, _⟩
    · exact ⟨_, _, he, g, SRes.nil _ _ _⟩
    · exact ⟨_, _, he, g, _, by unfold pairs; rw [List.length_map]; exact canon_len16 _, RowIn.of ho⟩
  · exact (of_large v l w hr (by omega)).mono fun e w' ⟨he, g⟩ => ⟨_, _, he, g, SRes.nil _ _ _⟩

theorem cinfoN : (Try.prog.info? 40).map (fun i => (i.zero, i.size, i.bytes)) = some (some (.agg #[.int .i64 0, .int .i64 0, .int .i64 0]), 3, 24) := by kernel_rfl
set_option maxHeartbeats 400000 in
set_option maxRecDepth 100000 in
theorem cloneN {w : World} {v : Value} {n : Nat} {xs : List Value} (hr : RdC 3 w v n xs) (hn : n ≤ 1000) :
    Calls Try.prog 24 #[v] w fun e w' => ∃ u, e = .returned u ∧ w'.ownsRow w.heap.size 40 3 u n xs ∧ Gr w w' := by
  obtain ⟨i0, hi0, hz0, hz1, hz2⟩ := info_parts cinfoN
  obtain ⟨hxl, hone, ⟨rfl, rfl⟩ | ⟨ad, c, rfl, hc, hb, hx⟩⟩ := hr
  · have hq : ∀ wx : World, (binOp .eql 22 (.slice none 0 0) (.slice none 0 0)).run Try.prog wx = .ok (.bool true) wx := fun wx => by
      have := Lib.run_eql_slice_nil (P := Try.prog) wx 22 _ none 0 0 0 0 Try.underlying22
      simpa using this
    go_enter Try.func24, Try.ntmps24
    go_wp2_with fail
    go_ret
    exact ⟨_, rfl, ⟨hxl, .inl ⟨rfl, rfl⟩⟩, Gr.refl _⟩
  · have HC : Hid (∀ j u, xs[j]? = some u → (w.alloc (.cells #[] 40)).cell? (ad.add j) = some u) := fun j u hj => by
      have hn0 : n ≠ 0 := by rintro rfl; rw [Nat.zero_mul] at hxl; rw [List.eq_nil_of_length_eq_zero hxl] at hj; simp at hj
      have hb2 : (ad.add j).block < w.heap.size := by have := hb hn0; unfold Addr.add; split <;> simpa using this
      exact (World.cell?_of_block (Below.block ((Gr.refl w).alloc _) _ hb2)).trans (hx j u hj)
    have HO : Hid ((w.alloc (.cells #[] 40)).ownsRow w.heap.size 40 3 (.slice (some ⟨w.heap.size, 0, none⟩) 0 0) 0 []) := World.ownsRow_made w #[] 0 (Nat.le_refl _) (by simp [maxLen]) rfl
    have HF := Lib.hid hxl
    have H1 := Lib.hid hone
    have hq : ∀ wx : World, (binOp .eql 22 (.slice (some ad) n c) (.slice none 0 0)).run Try.prog wx = .ok (.bool false) wx := fun wx => by
      have := Lib.run_eql_slice_nil (P := Try.prog) wx 22 _ (some ad) n c 0 0 Try.underlying22
      simpa using this
    clear hx hone hxl
    go_enter Try.func24, Try.ntmps24
    go_wp2_with (at_builtin; refine wpList_append_own _ rfl (.tmp 5) (.tmp 6) 22 rfl w.heap.size 40 i0 _ 3 24 Try.underlying22 hi0 hz0 hz1 hz2 rfl (by omega) _ _ _ rfl HO.out ad n c xs rfl HF.out HC.out H1.out (by simp only [maxLen]; omega) (by omega) (by simp) ?_; intro v1 w4 hown hg1 _)
    go_ret
    refine ⟨v1, rfl, ?_, ((Gr.refl w).alloc _).grown hg1 (fun k hk => (HO.out.lt k hk).1)⟩
    rw [Nat.zero_add, List.nil_append] at hown
    exact hown

theorem cinfoS : (Try.prog.info? 53).map (fun i => (i.zero, i.size, i.bytes)) = some (some (.agg #[.int .i64 0, .int .i64 0]), 2, 16) := by kernel_rfl
set_option maxHeartbeats 400000 in
set_option maxRecDepth 100000 in
theorem cloneS {w : World} {v : Value} {n : Nat} {xs : List Value} (hr : RdC 2 w v n xs) (hn : n ≤ 1000) :
    Calls Try.prog 25 #[v] w fun e w' => ∃ u, e = .returned u ∧ w'.ownsRow w.heap.size 53 2 u n xs ∧ Gr w w' := by
  obtain ⟨i0, hi0, hz0, hz1, hz2⟩ := info_parts cinfoS
  obtain ⟨hxl, hone, ⟨rfl, rfl⟩ | ⟨ad, c, rfl, hc, hb, hx⟩⟩ := hr
  · have hq : ∀ wx : World, (binOp .eql 42 (.slice none 0 0) (.slice none 0 0)).run Try.prog wx = .ok (.bool true) wx := fun wx => by
      have := Lib.run_eql_slice_nil (P := Try.prog) wx 42 _ none 0 0 0 0 Try.underlying42
      simpa using this
    go_enter Try.func25, Try.ntmps25
    go_wp2_with fail
    go_ret
    exact ⟨_, rfl, ⟨hxl, .inl ⟨rfl, rfl⟩⟩, Gr.refl _⟩
  · have HC : Hid (∀ j u, xs[j]? = some u → (w.alloc (.cells #[] 53)).cell? (ad.add j) = some u) := fun j u hj => by
      have hn0 : n ≠ 0 := by rintro rfl; rw [Nat.zero_mul] at hxl; rw [List.eq_nil_of_length_eq_zero hxl] at hj; simp at hj
      have hb2 : (ad.add j).block < w.heap.size := by have := hb hn0; unfold Addr.add; split <;> simpa using this
      exact (World.cell?_of_block (Below.block ((Gr.refl w).alloc _) _ hb2)).trans (hx j u hj)
    have HO : Hid ((w.alloc (.cells #[] 53)).ownsRow w.heap.size 53 2 (.slice (some ⟨w.heap.size, 0, none⟩) 0 0) 0 []) := World.ownsRow_made w #[] 0 (Nat.le_refl _) (by simp [maxLen]) rfl
    have HF := Lib.hid hxl
    have H1 := Lib.hid hone
    have hq : ∀ wx : World, (binOp .eql 42 (.slice (some ad) n c) (.slice none 0 0)).run Try.prog wx = .ok (.bool false) wx := fun wx => by
      have := Lib.run_eql_slice_nil (P := Try.prog) wx 42 _ (some ad) n c 0 0 Try.underlying42
      simpa using this
    clear hx hone hxl
    go_enter Try.func25, Try.ntmps25
    go_wp2_with (at_builtin; refine wpList_append_own _ rfl (.tmp 5) (.tmp 6) 42 rfl w.heap.size 53 i0 _ 2 16 Try.underlying42 hi0 hz0 hz1 hz2 rfl (by omega) _ _ _ rfl HO.out ad n c xs rfl HF.out HC.out H1.out (by simp only [maxLen]; omega) (by omega) (by simp) ?_; intro v1 w4 hown hg1 _)
    go_ret
    refine ⟨v1, rfl, ?_, ((Gr.refl w).alloc _).grown hg1 (fun k hk => (HO.out.lt k hk).1)⟩
    rw [Nat.zero_add, List.nil_append] at hown
    exact hown
end Go.Proofs.Ytbodadddcbbjeaa
