/- The contract of the document's own Nodes. -/
import Derived.Test.YthnoafmdecehcaaFormH
namespace Rm
open Go Go.RowKit
def bitN (a i : Nat) : Nat := if a.testBit i then 1 else 0
theorem bitN_le (a i : Nat) : bitN a i ≤ 1 := by unfold bitN; split <;> omega
theorem bit_val (a i : Nat) : ((a : Int) / 2 ^ i).tmod 2 = (bitN a i : Int) := by
  have e1 : (a : Int) / 2 ^ i = ((a / 2 ^ i : Nat) : Int) := by simp
  have e2 : ((a / 2 ^ i : Nat) : Int).tmod 2 = ((a / 2 ^ i % 2 : Nat) : Int) := rfl
  rw [e1, e2]
  unfold bitN
  rw [Nat.testBit_eq_decide_div_mod_eq]
  by_cases h : a / 2 ^ i % 2 = 1
  · simp [h]
  · have : a / 2 ^ i % 2 = 0 := by omega
    simp [this]
theorem tag_bits16 : ∀ y < 16, ∀ n < 16, ∀ i < 4, Nat.land y n = 0 → tagN y n i = 2 * bitN y i + 3 * bitN n i := by decide +kernel
theorem boxNs_snoc (F : List Bx) (b : Bx) : boxNs (F ++ [b]) = boxNs F + boxN b := by simp [boxNs]
theorem boxNs_take {F : List Bx} {k : Nat} {b : Bx} (h : F[k]? = some b) : boxNs (F.take (k + 1)) = boxNs (F.take k) + boxN b := by
  obtain ⟨hk, e⟩ := List.getElem?_eq_some_iff.1 h
  rw [List.take_succ_eq_append_getElem hk, e, boxNs_snoc]
theorem boxNs_le (F : List Bx) : boxNs F ≤ 2 + 46 * F.length := by rw [← ofL_len]; exact ofS_len F
end Rm
namespace Go.Proofs.Ythnoafmdecehcaa
open Go.RowKit Rm
set_option linter.unusedVariables false

set_option maxHeartbeats 1000000 in
set_option maxRecDepth 100000 in
theorem rnodes_ok {v : Value} {F : List Bx} {w : World} (hr : RdF w v (F.map boxI)) (hF : OkF F) (hl : F.length ≤ 40) :
    Calls Try.prog 19 #[v] w fun e w' => e = .returned (.int .i64 (boxNs F : Nat)) ∧ Gr w w' := by
  obtain ⟨a, cp, rfl, hcp, hx⟩ := hr
  rw [List.length_map] at *
  have HX := Lib.hid hx
  have HF := Lib.hid hF
  have hlen' : (F.length : Int) ≤ 40 := by omega
  clear hx hF
  go_enter Try.func19, Try.ntmps19
  go_wp2_with fail
  go_loopw [3, 9] (fun nn kk wr => ∃ k : Nat, k ≤ F.length ∧ kk = .int .i64 k ∧ nn = .int .i64 (boxNs (F.take k) : Nat) ∧ Gr w wr) (fun _ kk _ => F.length - (intOf kk).toNat)
  case atStart => exact ⟨0, by omega, rfl, rfl, Gr.refl _⟩
  case round =>
    obtain ⟨k, hk, rfl, rfl, hg⟩ := hrel
    have hs := boxNs_le (F.take k)
    rw [List.length_take] at hs
    have hs2 : boxNs (F.take k) ≤ 1842 := by omega
    clear hs
    by_cases hlt : k < F.length
    · obtain ⟨⟨⟨y, n⟩, m⟩, hp⟩ : ∃ p, F[k]? = some p := ⟨_, List.getElem?_eq_getElem hlt⟩
      obtain ⟨b, off, rfl, hb, hcell⟩ := HX.out (by intro e; have := congrArg List.length e; rw [List.length_map] at this; simp at this; subst this; simp at hlt)
      obtain ⟨sv, c1, c2, c3, hs⟩ := hcell k (boxI ((y, n), m)) (by simp [hp])
      rw [← hg.cells.1 b _ hb] at c1 c2 c3
      simp only [boxI] at c1 c2 c3 hs
      obtain ⟨sa, sc, rfl⟩ := rd2_form hs
      have hok : OkB ((y, n), m) := HF.out _ (List.mem_of_getElem? hp)
      have hbr : b < wr.heap.size := Nat.lt_of_lt_of_le hb hg.le
      have hk40 : (k : Int) < 40 := by omega
      have HS : Hid (boxNs (F.take (k + 1)) = boxNs (F.take k) + (2 + tagNs y n 4 + 2 * (pairs (canon m)).length)) := by unfold Hid; rw [boxNs_take hp, pairs_len]; rfl
      have hpl : (pairs (canon m)).length ≤ 16 := by rw [pairs_len]; exact canon_len16 m
      have HTG := Lib.hid (fun i (hi : i < 4) => tag_bits16 y hok.1.1 n hok.1.2.1 i hi hok.1.2.2)
      have HG := Lib.hid (hg.alloc (.cells #[.int .i64 (y : Int), .int .i64 (n : Int), .slice sa (pairs (canon m)).length sc] 56))
      have HBX : Hid ((wr.alloc (.cells #[.int .i64 (y : Int), .int .i64 (n : Int), .slice sa (pairs (canon m)).length sc] 56)).heap[wr.heap.size]? = some (.cells #[.int .i64 (y : Int), .int .i64 (n : Int), .slice sa (pairs (canon m)).length sc] 56 (0, 0))) := heap_alloc_new _ _
      clear hcell hp hok hs
      generalize boxNs (F.take k) = s at *
      generalize (pairs (canon m)).length = q at *
      have hsI : (s : Int) ≤ 1842 := by omega
      have hqI : (q : Int) ≤ 16 := by omega
      generalize wr = wo at *
      go_wp2_with fail
      go_loopw [3, 20] (fun nn jj wi => ∃ j : Nat, j ≤ 4 ∧ jj = .int .i64 j ∧ nn = .int .i64 ((s + (2 + tagNs y n j + 2 * q) : Nat) : Int) ∧ Gr w wi ∧ wi.heap[wo.heap.size]? = some (.cells #[.int .i64 (y : Int), .int .i64 (n : Int), .slice sa q sc] 56 (0, 0))) (fun _ jj _ => 4 - (intOf jj).toNat)
      case atStart => exact ⟨0, by omega, rfl, by simp [tagNs]; try omega, HG.out, HBX.out⟩
      case round =>
        obtain ⟨j, hj, rfl, rfl, hgi, hbi⟩ := hrel
        have htl := tagNs_le y n j
        by_cases hjt : j < 4
        · have b1 := bit_val y j
          have b2 := bit_val n j
          have HT2 : Hid (tagNs y n (j + 1) = tagNs y n j + (2 * bitN y j + 3 * bitN n j)) := by unfold Hid; simp only [tagNs]; rw [HTG.out j hjt]
          have l1 := bitN_le y j
          have l2 := bitN_le n j
          generalize bitN y j = p1 at *
          generalize bitN n j = p2 at *
          have d1 : wr.cell? ⟨wo.heap.size, 0, none⟩ = some (.int .i64 (y : Int)) := by rw [cell_of_row _ _ _ _ _ _ hbi]; rfl
          have d2 : wr.cell? ⟨wo.heap.size, 1, none⟩ = some (.int .i64 (n : Int)) := by rw [cell_of_row _ _ _ _ _ _ hbi]; rfl
          have hj4 : (j : Int) < 4 := by omega
          have hbl := Blk_lt hbi
          obtain ⟨u, hu⟩ : ∃ u, s + (2 + tagNs y n j + 2 * q) = u := ⟨_, rfl⟩
          rw [hu]
          have huI : (u : Int) ≤ 3000 := by omega
          have HU := Lib.hid hu
          clear hu
          go_wp2_with fail
          go_region
          go_wp2_with fail
          go_roundw
          case rel => exact ⟨j + 1, by omega, by go_num, congrArg (Value.int .i64) (by have := HU.out; have := HT2.out; omega), hgi.drew, hbi⟩
          case measure => simp [intOf]; omega
        · obtain rfl : j = 4 := by omega
          go_wp2_with fail
          go_roundw
          case rel => exact ⟨k + 1, by omega, by go_num, by rw [HS.out], hgi⟩
          case measure => simp [intOf]; omega
    · obtain rfl : k = F.length := by omega
      rw [List.take_length] at *
      go_wp2_with fail
      go_ret
      exact ⟨rfl, hg⟩
end Go.Proofs.Ythnoafmdecehcaa
