/- The contracts of the document's own Spans and Set. -/
import Derived.Test.YthnoafmdecehcaaSpanD
namespace Rm
open Go Go.RowKit
theorem bArr_one (s : Nat → Bool) : (bArr s).all (·.oneCell') = true := by
  rw [Array.all_eq_true_iff_forall_mem]
  intro x hx
  simp [bArr] at hx
  obtain ⟨i, _, rfl⟩ := hx
  rfl
theorem Gr.setRow {a w : World} (h : Gr a w) {g : Nat} (hg : a.heap.size ≤ g) (cs : Array Value) : Gr a (w.setRow g cs) :=
  ⟨h.os, h.tape, h.output, by have := h.le; simpa using this, fun k hk => (setRow_other w g k cs (by omega)).trans (h.block k hk)⟩
end Rm
namespace Go.Proofs.Ythnoafmdecehcaa
open Go.RowKit Rm
set_option linter.unusedVariables false

set_option maxHeartbeats 1000000 in
set_option maxRecDepth 100000 in
theorem rspans_any (v : Value) (l : List (Int × Int)) (w : World) (hr : Rd2 w v l) :
    Calls Try.prog 60 #[v] w fun e w' => e = .returned (.int .i64 (chkS l)) ∧ Gr w w' := by
  obtain ⟨a, cp, rfl, hcp, hx⟩ := hr
  by_cases h16 : 16 < l.length
  · have e : chkS l = 2 := by simp [chkS, h16]
    rw [e]
    have hz : (16 : Int) < (l.length : Int) := by omega
    go_enter Try.func60, Try.ntmps60
    go_wp2
    go_ret
    exact ⟨rfl, Gr.refl _⟩
  · have e : chkS l = chkGo (-1) l := by simp [chkS, h16]
    rw [e]
    clear e
    have hz : ¬ (16 : Int) < (l.length : Int) := by omega
    have HX := Lib.hid hx
    clear hx
    go_enter Try.func60, Try.ntmps60
    go_wp2
    go_loopw [3, 11] (fun la i wr => ∃ (k : Nat) (last : Int), k ≤ l.length ∧ i = .int .i64 k ∧ la = .int .i64 last ∧ Hid (chkGo (-1) l = chkGo last (l.drop k)) ∧ Gr w wr) (fun _ i _ => l.length - (intOf i).toNat)
    case atStart => exact ⟨0, -1, by omega, rfl, rfl, rfl, Gr.refl _⟩
    case round =>
      obtain ⟨k, last, hk, rfl, rfl, hh, hg⟩ := hrel
      by_cases hlt : k < l.length
      · obtain ⟨⟨f, t⟩, hp⟩ : ∃ p, l[k]? = some p := ⟨_, List.getElem?_eq_getElem hlt⟩
        obtain ⟨b, off, rfl, hb, hcell⟩ := HX.out (by intro e; rw [e] at hlt; simp at hlt)
        obtain ⟨c1, c2⟩ := hcell k _ hp
        rw [← hg.cells.1 b _ hb] at c1 c2
        simp only at c1 c2
        have hbr : b < wr.heap.size := Nat.lt_of_lt_of_le hb hg.le
        have HH : Hid (chkGo (-1) l = if f < 0 ∨ 32 < t ∨ t ≤ f then 1 else if f ≤ last then 3 else chkGo t (l.drop (k + 1))) := by
          rw [hh.out, drop_at hp]; rfl
        clear hh hcell
        have hk16 : (k : Int) ≤ 16 := by omega
        by_cases hbad : f < 0 ∨ 32 < t ∨ t ≤ f
        · have E1 : Hid (chkGo (-1) l = 1) := by rw [HH.out, if_pos hbad]; rfl
          clear HH
          by_cases q1 : f < 0
          · go_wp2
            go_ret
            exact ⟨by rw [E1.out]; rfl, hg.alloc _⟩
          · by_cases q2 : 32 < t
            · go_wp2
              go_ret
              exact ⟨by rw [E1.out]; rfl, hg.alloc _⟩
            · have q3 : t ≤ f := by omega
              go_wp2
              go_ret
              exact ⟨by rw [E1.out]; rfl, hg.alloc _⟩
        · have q1 : ¬ f < 0 := by omega
          have q2 : ¬ 32 < t := by omega
          have q3 : ¬ t ≤ f := by omega
          have e1 : Hid (chkGo (-1) l = if f ≤ last then 3 else chkGo t (l.drop (k + 1))) := by rw [HH.out, if_neg hbad]; rfl
          clear HH hbad
          by_cases q4 : f ≤ last
          · have E1 : Hid (chkGo (-1) l = 3) := by rw [e1.out, if_pos q4]; rfl
            clear e1
            go_wp2
            go_ret
            exact ⟨by rw [E1.out]; rfl, hg.alloc _⟩
          · have E1 : Hid (chkGo (-1) l = chkGo t (l.drop (k + 1))) := by rw [e1.out, if_neg q4]; rfl
            clear e1
            go_wp2
            go_roundw
            case rel => exact ⟨k + 1, t, by omega, by go_num, rfl, E1, hg.alloc _⟩
            case measure => simp [intOf]; omega
      · obtain rfl : k = l.length := by omega
        have E1 : Hid (chkGo (-1) l = 0) := by rw [hh.out, List.drop_length]; rfl
        clear hh
        go_wp2
        go_ret
        exact ⟨by rw [E1.out]; rfl, hg⟩

theorem nums_info : (Try.prog.info? 97).map (·.size) = some 32 := by kernel_rfl

theorem mem_step (m n : Nat) (i : Nat) : (if i = n then true else m.testBit i) = (m ||| 2 ^ n).testBit i := by
  rw [Nat.testBit_or, Nat.testBit_two_pow]
  by_cases h : i = n
  · subst h; simp
  · have : ¬ n = i := fun e => h e.symm
    simp [h, this]

set_option maxHeartbeats 1000000 in
set_option maxRecDepth 100000 in
theorem set_any (v : Value) (L : List (Nat × Nat)) (w : World) (hr : Rd2 w v (pairs L)) (hv : VF 0 L) :
    Calls Try.prog 61 #[v] w fun e w' => e = .returned (.agg (bArr (maskL L).testBit)) ∧ Gr w w' := by
  obtain ⟨a, cp, rfl, hcp, hx⟩ := hr
  rw [pairs_len] at hcp
  rw [pairs_len]
  have HX := Lib.hid hx
  have HV := Lib.hid hv
  have hlen := hv.len16
  have hlen' : (L.length : Int) ≤ 16 := by omega
  clear hx hv
  go_enter Try.func61, Try.ntmps61
  go_wp2
  go_loopw [9] (fun i wr => ∃ k : Nat, k ≤ L.length ∧ i = .int .i64 k ∧ Gr w wr ∧ wr.heap[w.heap.size + 1]? = some (.cells (bArr (maskL (L.take k)).testBit) 97 (0, 0)) ∧ wr.heap[w.heap.size]? = some (.cells (bArr fun _ => false) 97 (0, 0))) (fun i _ => L.length - (intOf i).toNat)
  case atStart =>
    refine ⟨0, by omega, rfl, ((Gr.refl _).alloc _).alloc _, ?_, ?_⟩
    · rw [heap_alloc2_new, show bArr (maskL (L.take 0)).testBit = bArr (fun _ => false) from bArr_ext (fun i _ => by simp [maskL])]; rfl
    · rw [heap_alloc2_old]; rfl
  case round =>
    obtain ⟨k, hk, rfl, hg, hblk, hres⟩ := hrel
    generalize wr = wo at *
    by_cases hlt : k < L.length
    · obtain ⟨⟨f, t⟩, hp⟩ : ∃ p, L[k]? = some p := ⟨_, List.getElem?_eq_getElem hlt⟩
      obtain ⟨b, off, rfl, hb, hcell⟩ := HX.out (by intro e; rw [← pairs_len, e] at hlt; simp at hlt)
      have c1 : w.cell? ⟨b, off + k * 2, none⟩ = some (.int .i64 f) := (hcell k _ (pairs_at hp)).1
      have c2 : w.cell? ⟨b, off + k * 2 + 1, none⟩ = some (.int .i64 t) := (hcell k _ (pairs_at hp)).2
      rw [← hg.cells.1 b _ hb] at c1 c2
      have hbr : b < wo.heap.size := Nat.lt_of_lt_of_le hb hg.le
      have hft : f < t ∧ t ≤ 32 := HV.out.le (f, t) (List.mem_of_getElem? hp)
      have HM := Lib.hid (maskL_take hp)
      clear hcell
      generalize maskL (L.take k) = m at *
      have HB := Lib.hid hblk
      have HR := Lib.hid hres
      clear hblk hres
      have hk16 : (k : Int) ≤ 16 := by omega
      have hs1 := Blk_lt HB.out
      go_wp2
      have T0 := Two.new wo f t 53
      have G0 := hg.alloc (.cells #[.int .i64 f, .int .i64 t] 53)
      have HB1 := Lib.hid ((Below.heap_alloc wo (.cells #[.int .i64 f, .int .i64 t] 53) _ hs1).trans HB.out)
      have HR1 := Lib.hid ((Below.heap_alloc wo (.cells #[.int .i64 f, .int .i64 t] 53) _ (Blk_lt HR.out)).trans HR.out)
      generalize hBB : wo.heap.size = BB at *
      have HBB := Lib.hid hBB
      clear hBB c1 c2 HB HR
      generalize wo.alloc (.cells #[.int .i64 f, .int .i64 t] 53) = W1 at *
      go_loopw [6] (fun nn wi => ∃ n : Nat, f ≤ n ∧ n ≤ t ∧ nn = .int .i64 n ∧ Gr w wi ∧ Two wi BB f t ∧ wi.heap[w.heap.size + 1]? = some (.cells (bArr (orTo m f (n - f)).testBit) 97 (0, 0)) ∧ wi.heap[w.heap.size]? = some (.cells (bArr fun _ => false) 97 (0, 0))) (fun nn _ => t - (intOf nn).toNat)
      case atStart => exact ⟨f, by omega, by omega, rfl, G0, T0, by simpa [orTo] using HB1.out, HR1.out⟩
      case round =>
        obtain ⟨n, hn1, hn2, rfl, hgi, ⟨t1, t2, t3⟩, hbi, hri⟩ := hrel
        by_cases hnt : n < t
        · have HS := Lib.hid (orTo_step m f n hn1)
          have hc : wr.cell? ⟨w.heap.size + 1, n, none⟩ = some (.bool ((orTo m f (n - f)).testBit n)) := by rw [cell_of_row _ _ _ _ _ _ hbi, bArr_at _ n (by omega)]
          have hfz := frozen_of_row _ _ n _ _ hbi
          have HBI := Lib.hid hbi
          have HRI := Lib.hid hri
          have hn32 : (n : Int) < 32 := by omega
          have HT : Hid (Two wr BB f t) := ⟨t1, t2, t3⟩
          have hbb : BB ≠ w.heap.size + 1 := by have := HBB.out; omega
          clear hbi hri
          go_wp2
          go_roundw
          case rel =>
            refine ⟨n + 1, by omega, by omega, by go_num, hgi.setCell (by simp) _, HT.out.far hbb _, ?_, ?_⟩
            · rw [heap_setCell_same _ _ _ _ _ _ HBI.out, bArr_set _ _ _ (by omega), HS.out, bArr_ext (fun i _ => mem_step _ n i)]
            · rw [heap_setCell_other _ _ _ _ (by simp)]; exact HRI.out
          case measure => simp [intOf]; omega
        · obtain rfl : n = t := by omega
          have HBI := Lib.hid hbi
          have HRI := Lib.hid hri
          clear hbi hri
          go_wp2
          go_roundw
          case rel => exact ⟨k + 1, by omega, by go_num, hgi, by rw [HM.out]; exact HBI.out, HRI.out⟩
          case measure => simp [intOf]; omega
    · obtain rfl : k = L.length := by omega
      rw [List.take_length] at hblk
      have HS : Hid ((Try.prog.info? 97).map (·.size) = some (bArr (maskL L).testBit).size) := by rw [bArr_size]; exact nums_info
      have HO : Hid ((bArr fun _ => false).size = (bArr (maskL L).testBit).size) := by rw [bArr_size, bArr_size]; rfl
      have H1 := Lib.hid (bArr_one (maskL L).testBit)
      have HB := Lib.hid hblk
      have HR := Lib.hid hres
      clear hblk hres
      go_wp2_with (first | (refine wpList_load_row rfl 97 _ rfl (w.heap.size + 1) rfl 97 _ (0, 0) _ HB.out Try.underlying97 rfl HS.out ?_) | (refine wpList_store_row rfl 97 _ _ rfl w.heap.size _ rfl rfl 97 _ HR.out HS.out HO.out H1.out ?_))
      refine bodyPost_ret (v := .agg (bArr (maskL L).testBit)) (results_cell_row Try.results61 _ _ w.heap.size 97 _ (0, 0) _ rfl (setRow_heap _ _ _ _ _ _ HR.out) Try.underlying97 rfl HS.out) rfl ⟨rfl, ?_⟩
      exact hg.setRow (Nat.le_refl _) _
end Go.Proofs.Ythnoafmdecehcaa
