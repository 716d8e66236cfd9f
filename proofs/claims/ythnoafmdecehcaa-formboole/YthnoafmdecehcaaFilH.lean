/- The contract of slices.Index over blocks. -/
import Derived.Test.YthnoafmdecehcaaFilG
namespace Go.Proofs.Ythnoafmdecehcaa
open Go.RowKit Rm
set_option linter.unusedVariables false

/-- what Index answers -/
def IdxAt (l : List Bx) (b : Bx) (w : World) (e : Ending) (w' : World) : Prop :=
  ((∃ i : Nat, l[i]? = some b ∧ e = .returned (.int .i64 (i : Int))) ∨ (b ∉ l ∧ e = .returned (.int .i64 (-1)))) ∧ Gr w w'
theorem not_mem_of {l : List Bx} {b : Bx} (h : ∀ j, j < l.length → l[j]? ≠ some b) : b ∉ l := by
  intro hb
  obtain ⟨j, hj⟩ := List.mem_iff_getElem?.1 hb
  exact h j (List.getElem?_eq_some_iff.1 hj).1 hj

set_option maxHeartbeats 1000000 in
set_option maxRecDepth 100000 in
theorem index_any (v : Value) (l : List Bx) (y n m : Nat) (w : World) (hr : Rd3 w v l) (hl : l.length ≤ 16) :
    Calls Try.prog 94 #[v, .agg #[.int .i64 (y : Int), .int .i64 (n : Int), .int .u64 (m : Int)]] w (IdxAt l ((y, n), m) w) := by
  obtain ⟨a, cp, rfl, hcp, hx⟩ := hr
  have HX := Lib.hid hx
  have hlen' : (l.length : Int) ≤ 16 := by omega
  clear hx
  go_enter Try.func94, Try.ntmps94
  go_wp2
  go_loopw [8] (fun i wr => ∃ k : Nat, k ≤ l.length ∧ i = .int .i64 k ∧ Hid (∀ j, j < k → l[j]? ≠ some ((y, n), m)) ∧ Gr (w.alloc (.cells #[.int .i64 (y : Int), .int .i64 (n : Int), .int .u64 (m : Int)] 133)) wr) (fun i _ => l.length - (intOf i).toNat)
  case atStart => exact ⟨0, by omega, rfl, fun j hj => by omega, Gr.refl _⟩
  case round =>
    obtain ⟨k, hk, rfl, hno, hg⟩ := hrel
    have d1 : wr.cell? ⟨w.heap.size, 0, none⟩ = some (.int .i64 (y : Int)) := by rw [hg.cells.1 _ _ (by simp)]; simp [go_sem]
    have d2 : wr.cell? ⟨w.heap.size, 1, none⟩ = some (.int .i64 (n : Int)) := by rw [hg.cells.1 _ _ (by simp)]; simp [go_sem]
    have d3 : wr.cell? ⟨w.heap.size, 2, none⟩ = some (.int .u64 (m : Int)) := by rw [hg.cells.1 _ _ (by simp)]; simp [go_sem]
    have G1 := ((Gr.refl w).alloc _).trans hg
    have HG := Lib.hid hg
    clear hg
    by_cases hlt : k < l.length
    · obtain ⟨⟨⟨y', n'⟩, m'⟩, hp⟩ : ∃ p, l[k]? = some p := ⟨_, List.getElem?_eq_getElem hlt⟩
      obtain ⟨b, off, rfl, hb, hcell⟩ := HX.out (by intro e; rw [e] at hlt; simp at hlt)
      obtain ⟨c1, c2, c3⟩ := hcell k _ hp
      rw [← G1.cells.1 b _ hb] at c1 c2 c3
      simp only at c1 c2 c3
      have hbr : b < wr.heap.size := Nat.lt_of_lt_of_le hb G1.le
      have hk16 : (k : Int) < 16 := by omega
      have HP := Lib.hid hp
      clear hcell hp
      by_cases heq : ((y', n'), m') = ((y, n), m)
      · simp only [Prod.mk.injEq] at heq
        obtain ⟨⟨rfl, rfl⟩, rfl⟩ := heq
        go_wp2
        go_quiet (fail)
        go_wp2
        go_ret
        exact ⟨.inl ⟨k, HP.out, rfl⟩, G1.drewN _⟩
      · have HN : Hid (∀ j, j < k + 1 → l[j]? ≠ some ((y, n), m)) := by
          intro j hj
          rcases Nat.lt_or_ge j k with c | c
          · exact hno.out j c
          · obtain rfl : j = k := by omega
            rw [HP.out]
            intro e
            exact heq (Option.some.inj e)
        cases h1 : ((y : Int) == (y' : Int))
        · go_wp2
          go_quiet (fail)
          go_wp2
          go_roundw
          case rel => exact ⟨k + 1, by omega, by go_num, HN, HG.out.drewN _⟩
          case measure => simp [intOf]; omega
        · cases h2 : ((n : Int) == (n' : Int))
          · go_wp2
            go_quiet (fail)
            go_wp2
            go_roundw
            case rel => exact ⟨k + 1, by omega, by go_num, HN, HG.out.drewN _⟩
            case measure => simp [intOf]; omega
          · have h3 : ((m : Int) == (m' : Int)) = false := by
              simp at h1 h2 ⊢
              intro e
              exact heq (by simp; omega)
            go_wp2
            go_quiet (fail)
            go_wp2
            go_roundw
            case rel => exact ⟨k + 1, by omega, by go_num, HN, HG.out.drewN _⟩
            case measure => simp [intOf]; omega
    · obtain rfl : k = l.length := by omega
      go_wp2
      go_ret
      exact ⟨.inr ⟨not_mem_of hno.out, rfl⟩, G1⟩
end Go.Proofs.Ythnoafmdecehcaa
