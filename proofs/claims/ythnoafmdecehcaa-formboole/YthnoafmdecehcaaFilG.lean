/- The contracts of package filter's blocks and of slices.Index over blocks. -/
import Derived.Test.YthnoafmdecehcaaFilF
namespace Go.Proofs.Ythnoafmdecehcaa
open Go.RowKit Rm
set_option linter.unusedVariables false

theorem set_info : (Try.prog.info? 102).map (·.size) = some 1 := by kernel_rfl
theorem index_table (T : Nat → Nat) (k : Nat) (hk : k < 16) (w : World) : (Instr.index 104 (.agg (tArr T)) (.int .i64 (k : Int))).run Try.prog w = .ok (.int .u64 (T k : Nat)) w := by
  have hz : (sizeOf 102).run Try.prog w = .ok 1 w := by
    cases hq : Try.prog.info? 102 with
    | none => have := set_info; rw [hq] at this; simp at this
    | some i =>
      have hs : i.size = 1 := by have := set_info; rw [hq] at this; simpa using this
      simp [sizeOf, typeInfo, hq, hs]
  have hc := tArr_at T k hk
  simp [Instr.index, Sem.run_bind, run_underlying Try.underlying104, asIntOf, part, hz, hc]
  intro h
  omega

/-- a slice of blocks reads as a list -/
def Rd3 (w : World) (v : Value) (l : List Bx) : Prop :=
  ∃ a c, v = .slice a l.length c ∧ l.length ≤ c ∧ (l ≠ [] → ∃ b off, a = some ⟨b, off, none⟩ ∧ b < w.heap.size ∧
    ∀ i p, l[i]? = some p → w.cell? ⟨b, off + i * 3, none⟩ = some (.int .i64 (p.1.1 : Nat)) ∧ w.cell? ⟨b, off + i * 3 + 1, none⟩ = some (.int .i64 (p.1.2 : Nat)) ∧ w.cell? ⟨b, off + i * 3 + 2, none⟩ = some (.int .u64 (p.2 : Nat)))
theorem Rd3.gr {w w' : World} {v : Value} {l : List Bx} (h : Rd3 w v l) (g : Gr w w') : Rd3 w' v l := by
  obtain ⟨a, c, e, hc, h⟩ := h
  refine ⟨a, c, e, hc, fun hl => ?_⟩
  obtain ⟨b, off, ea, hb, hx⟩ := h hl
  refine ⟨b, off, ea, Nat.lt_of_lt_of_le hb g.le, fun i p hp => ?_⟩
  obtain ⟨h1, h2, h3⟩ := hx i p hp
  exact ⟨(g.cells.1 b _ hb).trans h1, (g.cells.1 b _ hb).trans h2, (g.cells.1 b _ hb).trans h3⟩
theorem Rd3.own {w : World} {base : Nat} {e : TypeId} {v : Value} {l : List Bx} (h : w.ownsRow base e 3 v l.length (flatK l)) : Rd3 w v l := by
  obtain ⟨hl, h⟩ := h
  rcases h with ⟨rfl, h0⟩ | ⟨g, cap, cur, rfl, _, hg, hn, _, hs, ht⟩
  · have : l = [] := List.eq_nil_of_length_eq_zero h0
    subst this
    exact ⟨none, 0, rfl, Nat.le_refl _, fun h => absurd rfl h⟩
  · refine ⟨_, _, rfl, hn, fun hne => ?_⟩
    refine ⟨g, 0, rfl, Blk_lt hg, fun i p hp => ?_⟩
    have hi : i < l.length := (List.getElem?_eq_some_iff.1 hp).1
    have hf := flatK_at l i p hp
    rw [← ht] at hf
    have key : ∀ j, j < l.length * 3 → w.cell? ⟨g, 0 + j, none⟩ = (cur.toList.take (l.length * 3))[j]? := by
      intro j hj
      rw [List.getElem?_take_of_lt hj]
      simp [World.cell?, hg]
    have k2 := key (i * 3 + 1) (by omega)
    have k3 := key (i * 3 + 2) (by omega)
    rw [← Nat.add_assoc] at k2 k3
    exact ⟨(key (i * 3) (by omega)).trans hf.1, k2.trans hf.2.1, k3.trans hf.2.2⟩
theorem new3 (w : World) (a b c : Value) (t : TypeId) : ∀ j u, ([a, b, c] : List Value)[j]? = some u → (w.alloc (.cells #[a, b, c] t)).cell? ((⟨w.heap.size, 0, none⟩ : Addr).add j) = some u := by
  intro j u hu
  match j with
  | 0 => simp at hu; subst hu; simp [go_sem, Addr.add]
  | 1 => simp at hu; subst hu; simp [go_sem, Addr.add]
  | 2 => simp at hu; subst hu; simp [go_sem, Addr.add]
  | j + 3 => simp at hu
theorem block_info : (Try.prog.info? 133).map (fun i => (i.zero, i.size, i.bytes)) = some (some (.agg #[.int .i64 0, .int .i64 0, .int .u64 0]), 3, 24) := by kernel_rfl
theorem one3 (a b : Int) (c : Int) : ∀ u ∈ ([.int .i64 a, .int .i64 b, .int .u64 c] : List Value), u.oneCell' = true := by
  intro u hu
  simp at hu
  rcases hu with rfl | rfl | rfl <;> rfl
/-- new blocks -/
def BlkAt (w wr : World) (l : List Bx) (v : Value) : Prop := Gr w wr ∧ wr.ownsRow w.heap.size 133 3 v l.length (flatK l)
theorem BlkAt.rd {w w1 : World} {l : List Bx} {v : Value} (h : BlkAt w w1 l v) : Rd3 w1 v l := Rd3.own h.2
theorem BlkAt.more {w w1 w2 : World} {l : List Bx} {v : Value} (g : Gr w w1) (h : BlkAt w1 w2 l v) : BlkAt w w2 l v := by
  refine ⟨g.trans h.1, h.2.1, ?_⟩
  rcases h.2.2 with ⟨a, b⟩ | ⟨g', cap, cur, a, b, c⟩
  · exact .inl ⟨a, b⟩
  · exact .inr ⟨g', cap, cur, a, Nat.le_trans g.le b, c⟩

set_option maxHeartbeats 1000000 in
set_option maxRecDepth 100000 in
theorem blocks_any (T : Nat → Nat) (w : World) :
    Calls Try.prog 89 #[.agg (tArr T)] w fun e w' => ∃ u, e = .returned u ∧ BlkAt w w' (blkT T 16) u := by
  obtain ⟨i0, hi0, hz0, hz1, hz2⟩ := info_parts block_info
  have HS : Hid ((Try.prog.info? 104).map (·.size) = some (tArr T).size) := by rw [tArr_size]; exact table_info
  go_enter Try.func89, Try.ntmps89
  go_wp2_with (refine wpList_load_row rfl 104 _ rfl w.heap.size rfl 104 (tArr T) (0, 0) _ (heap_alloc_new _ _) Try.underlying104 rfl HS.out ?_)
  go_loopw [3, 7] (fun v i wr => ∃ n : Nat, n ≤ 16 ∧ i = .int .i64 n ∧ BlkAt w wr (blkT T n) v) (fun _ i _ => 16 - (intOf i).toNat)
  case atStart => exact ⟨0, by omega, rfl, (Gr.refl _).alloc _, World.ownsRow_nil _ _ _ _⟩
  case round =>
    obtain ⟨n, hn, rfl, hg, hown⟩ := hrel
    have hlen := blkT_len T n
    by_cases hlt : n < 16
    · have hix := fun wx => index_table T n hlt wx
      have hn16 : (n : Int) < 16 := by omega
      by_cases h0 : T n = 0
      · have HL := Lib.hid (blkT_no h0)
        have HO := Lib.hid hown
        rw [h0] at hix
        clear hown h0
        go_wp2_with fail
        go_roundw
        case rel => exact ⟨n + 1, by omega, by go_num, hg, by rw [HL.out]; exact HO.out⟩
        case measure => simp [intOf]; omega
      · obtain ⟨a, c, rfl, hc⟩ := own_form hown
        have HO := Lib.hid hown
        have HP : Hid (flatK (blkT T (n + 1)) = flatK (blkT T n) ++ [.int .i64 (n : Int), .int .i64 ((15 - n : Nat) : Int), .int .u64 (T n : Nat)] ∧ (blkT T (n + 1)).length = (blkT T n).length + 1) := by
          rw [blkT_yes h0]
          exact ⟨by rw [flatK_app]; rfl, by simp⟩
        have hne : (((T n : Nat) : Int) != 0) = true := by simp; omega
        have h15 := not15 n hlt
        clear hown hc h0
        generalize (blkT T n).length = len at *
        generalize (15 - n) = nn at *
        go_wp2_with (at_builtin; refine wpList_append_own _ rfl (.tmp 13) (.tmp 20) 129 rfl w.heap.size 133 i0 _ 3 24 Try.underlying129 hi0 hz0 hz1 hz2 rfl (by omega) _ _ _ rfl (HO.out.alloc _) ⟨wr.heap.size, 0, none⟩ 1 1 [.int .i64 (n : Int), .int .i64 (nn : Int), .int .u64 (T n : Nat)] rfl rfl (new3 _ _ _ _ _) (one3 _ _ _) (by simp only [maxLen]; omega) (by omega) (by have := hg.le; simp; omega) ?_; intro v1 w1 hown hg1 _)
        go_roundw
        case rel => exact ⟨n + 1, by omega, by go_num, (hg.alloc _).grown hg1 (fun k hk => (HO.out.lt k hk).1), by rw [HP.out.1, HP.out.2]; exact hown⟩
        case measure => simp [intOf]; omega
    · obtain rfl : n = 16 := by omega
      have HO := Lib.hid hown
      clear hown
      go_wp2_with fail
      go_ret
      exact ⟨_, rfl, hg, HO.out⟩
end Go.Proofs.Ythnoafmdecehcaa
