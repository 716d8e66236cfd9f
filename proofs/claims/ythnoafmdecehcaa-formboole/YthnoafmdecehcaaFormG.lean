/- slices.Clone over nodes; nodes that are written out; nodes behind a formula. -/
import Derived.Test.YthnoafmdecehcaaFormF
import Derived.Lib.SliceRun
namespace Rm
open Go Go.RowKit
theorem flatN_split (l : List Nd) (j : Nat) (u : Value) (h : (flatN l)[j]? = some u) : ∃ i p, l[i]? = some p ∧ ((j = i * 3 ∧ u = .int .i64 p.1) ∨ (j = i * 3 + 1 ∧ u = .int .i64 p.2.1) ∨ (j = i * 3 + 2 ∧ u = .int .i64 p.2.2)) := by
  have hj : j < l.length * 3 := by rw [← flatN_len]; exact (List.getElem?_eq_some_iff.1 h).1
  obtain ⟨p, hp⟩ : ∃ p, l[j / 3]? = some p := ⟨_, List.getElem?_eq_getElem (by omega)⟩
  have hf := flatN_at l (j / 3) p hp
  refine ⟨j / 3, p, hp, ?_⟩
  have hm : j % 3 = 0 ∨ j % 3 = 1 ∨ j % 3 = 2 := by omega
  rcases hm with m | m | m
  · left
    have e : j = j / 3 * 3 := by omega
    refine ⟨e, ?_⟩
    have h1 := hf.1
    rw [← e, h] at h1
    exact Option.some.inj h1
  · right; left
    have e : j = j / 3 * 3 + 1 := by omega
    refine ⟨e, ?_⟩
    have h1 := hf.2.1
    rw [← e, h] at h1
    exact Option.some.inj h1
  · right; right
    have e : j = j / 3 * 3 + 2 := by omega
    refine ⟨e, ?_⟩
    have h1 := hf.2.2
    rw [← e, h] at h1
    exact Option.some.inj h1
theorem rdN_cells {w : World} {b off : Nat} {l : List Nd} (h : ∀ i p, l[i]? = some p → w.cell? ⟨b, off + i * 3, none⟩ = some (.int .i64 p.1) ∧ w.cell? ⟨b, off + i * 3 + 1, none⟩ = some (.int .i64 p.2.1) ∧ w.cell? ⟨b, off + i * 3 + 2, none⟩ = some (.int .i64 p.2.2)) :
    ∀ j u, (flatN l)[j]? = some u → w.cell? ((⟨b, off, none⟩ : Addr).add j) = some u := by
  intro j u hu
  have ea : (⟨b, off, none⟩ : Addr).add j = ⟨b, off + j, none⟩ := by unfold Addr.add; by_cases h : j = 0 <;> simp [h]
  rw [ea]
  obtain ⟨i, p, hp, hc⟩ := flatN_split l j u hu
  obtain ⟨h1, h2, h3⟩ := h i p hp
  rcases hc with ⟨rfl, rfl⟩ | ⟨rfl, rfl⟩ | ⟨rfl, rfl⟩
  · exact h1
  · rw [← Nat.add_assoc]; exact h2
  · rw [← Nat.add_assoc]; exact h3
end Rm
namespace Go.Proofs.Ythnoafmdecehcaa
open Go.RowKit Rm
set_option linter.unusedVariables false

theorem node_info : (Try.prog.info? 46).map (fun i => (i.zero, i.size, i.bytes)) = some (some (.agg #[.int .i64 0, .int .i64 0, .int .i64 0]), 3, 24) := by kernel_rfl
/-- nodes in new memory -/
def OwnN (base : Nat) (w : World) (u : Value) (l : List Nd) : Prop := w.ownsRow base 46 3 u l.length (flatN l)
theorem OwnN.gr {base : Nat} {w w' : World} {u : Value} {l : List Nd} (h : OwnN base w u l) (g : Gr w w') : OwnN base w' u l := own_gr h g
theorem OwnN.rd {base : Nat} {w : World} {u : Value} {l : List Nd} (h : OwnN base w u l) : RdN w u l := RdN.own h
theorem OwnN.app {base : Nat} {w : World} {u : Value} {l r : List Nd} {n : Nat} {xs : List Value} (h : w.ownsRow base 46 3 u n xs) (hn : n = (l ++ r).length) (hx : xs = flatN l ++ flatN r) : OwnN base w u (l ++ r) := by
  unfold OwnN
  rw [flatN_app, ← hn, ← hx]
  exact h

set_option maxHeartbeats 400000 in
set_option maxRecDepth 100000 in
theorem clone_nodes {w : World} {v : Value} {l : List Nd} (hr : RdN w v l) (hl : l ≠ []) (hn : l.length ≤ 1000) :
    Calls Try.prog 22 #[v] w fun e w' => ∃ u, e = .returned u ∧ OwnN w.heap.size w' u l ∧ Gr w w' := by
  obtain ⟨i0, hi0, hz0, hz1, hz2⟩ := info_parts node_info
  obtain ⟨a, c, rfl, hc, hx⟩ := hr
  obtain ⟨b, off, rfl, hb, hcell⟩ := hx hl
  have HC := Lib.hid (rdN_cells (fun i p hp => by
    obtain ⟨h1, h2, h3⟩ := hcell i p hp
    have g := (Gr.refl w).alloc (.cells #[] 46)
    exact ⟨(g.cells.1 b _ hb).trans h1, (g.cells.1 b _ hb).trans h2, (g.cells.1 b _ hb).trans h3⟩) : ∀ j u, (flatN l)[j]? = some u → (w.alloc (.cells #[] 46)).cell? ((⟨b, off, none⟩ : Addr).add j) = some u)
  have HO : Hid ((w.alloc (.cells #[] 46)).ownsRow w.heap.size 46 3 (.slice (some ⟨w.heap.size, 0, none⟩) 0 0) 0 []) := World.ownsRow_made w #[] 0 (Nat.le_refl _) (by simp [maxLen]) rfl
  have HF := Lib.hid (flatN_len l)
  have H1 := Lib.hid (flatN_one l)
  have hq : ∀ wx : World, (binOp .eql 22 (.slice (some ⟨b, off, none⟩) l.length c) (.slice none 0 0)).run Try.prog wx = .ok (.bool false) wx := fun wx => by
    have := Lib.run_eql_slice_nil (P := Try.prog) wx 22 _ (some ⟨b, off, none⟩) l.length c 0 0 Try.underlying22
    simpa using this
  clear hcell hx
  go_enter Try.func22, Try.ntmps22
  go_wp2_with (at_builtin; refine wpList_append_own _ rfl (.tmp 5) (.tmp 6) 22 rfl w.heap.size 46 i0 _ 3 24 Try.underlying22 hi0 hz0 hz1 hz2 rfl (by omega) _ _ _ rfl HO.out ⟨b, off, none⟩ l.length c (flatN l) rfl HF.out HC.out H1.out (by simp only [maxLen]; omega) (by omega) (by simp) ?_; intro v1 w4 hown hg1 _)
  go_ret
  refine ⟨v1, rfl, ?_, ((Gr.refl w).alloc _).grown hg1 (fun k hk => (HO.out.lt k hk).1)⟩
  rw [Nat.zero_add, List.nil_append] at hown
  exact hown

theorem lit_node (w : World) (k a b : Int) (B : Nat) (hB : w.heap.size = B) : RdN (w.alloc (.cells #[.int .i64 k, .int .i64 a, .int .i64 b] 46)) (.slice (some ⟨B, 0, none⟩) 1 1) [(k, a, b)] := by
  subst hB
  exact RdN.own (base := w.heap.size) (e := 46) (l := [(k, a, b)]) (World.ownsRow_lit w _ 1 (Nat.le_refl _) (by simp [maxLen]) rfl)
theorem newK (w : World) (cs : List Value) (t : TypeId) : ∀ j u, cs[j]? = some u → (w.alloc (.cells cs.toArray t)).cell? ((⟨w.heap.size, 0, none⟩ : Addr).add j) = some u := by
  intro j u hu
  have ea : (⟨w.heap.size, 0, none⟩ : Addr).add j = ⟨w.heap.size, j, none⟩ := by unfold Addr.add; by_cases h : j = 0 <;> simp [h]
  rw [ea]
  have hb := heap_alloc_new w (.cells cs.toArray t)
  rw [cell_of_row _ _ _ _ _ _ hb]
  simpa using hu
end Go.Proofs.Ythnoafmdecehcaa
