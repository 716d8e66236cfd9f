/- The contract of the document's own Of: the points of a filter. -/
import Derived.Test.YthnoafmdecehcaaRefA
import Derived.Great.Walk
namespace Rm
open Go Go.RowKit
/-- a table's points -/
def ptF (T : Nat → Nat) (i : Nat) : Bool := (T (i / 32)).testBit (i % 32)
theorem in16_hasR : ∀ y < 16, ∀ n < 16, ∀ t < 16, in16 y n t = hasR (y : Nat) (n : Nat) (t : Nat) := by decide +kernel
/-- a set of points, with a box's points added below j -/
def midP (f : Nat → Bool) (b : Bx) (j i : Nat) : Bool := f i || (decide (i < j) && (b.2.testBit (i % 32) && inC b (i / 32)))
theorem midP_zero (f : Nat → Bool) (b : Bx) (i : Nat) : midP f b 0 i = f i := by simp [midP]
theorem midP_no {f : Nat → Bool} {b : Bx} {j : Nat} (h : (b.2.testBit (j % 32) && inC b (j / 32)) = false) (i : Nat) : midP f b j i = midP f b (j + 1) i := by
  unfold midP
  by_cases e : i = j
  · subst e; rw [h]; simp
  · have : (i < j + 1) ↔ i < j := by omega
    simp [this]
theorem midP_yes {f : Nat → Bool} {b : Bx} {j : Nat} (h : (b.2.testBit (j % 32) && inC b (j / 32)) = true) (i : Nat) : (if i = j then true else midP f b j i) = midP f b (j + 1) i := by
  unfold midP
  by_cases e : i = j
  · subst e; rw [h]; simp
  · have : (i < j + 1) ↔ i < j := by omega
    simp [this, e]
theorem midP_all (F : List Bx) (k : Nat) (b : Bx) (h : F[k]? = some b) (i : Nat) (hi : i < 512) : midP (ptF (tabF (F.take k))) b 512 i = ptF (tabF (F.take (k + 1))) i := by
  unfold midP ptF
  rw [tabF_take h]
  unfold addB
  cases hc : inC b (i / 32)
  · simp
  · simp [hi, Nat.testBit_or]
theorem rem32 (i : Nat) : (i : Int).tmod 32 = ((i % 32 : Nat) : Int) := rfl
theorem quo32 (i : Nat) : (i : Int).tdiv 32 = ((i / 32 : Nat) : Int) := rfl
end Rm
namespace Go.Proofs.Ythnoafmdecehcaa
open Go.RowKit Rm
set_option linter.unusedVariables false

theorem points_zero : (Try.prog.info? 33).bind (·.zero) = some (.agg (pArr fun _ => false)) := by kernel_rfl
theorem nums_zero : (Try.prog.info? 97).bind (·.zero) = some (.agg (bArr fun _ => false)) := by kernel_rfl
theorem run_alloc_zero {t : TypeId} {cs : Array Value} (hz : (Try.prog.info? t).bind (·.zero) = some (.agg cs)) (ev : Operand → Value) (o : Oper) (ho : o.op = .alloc t) (w : World) :
    (execOp ev o).run Try.prog w = .ok (.value (.pointer (some ⟨w.heap.size, 0, none⟩))) (w.alloc (.cells cs t)) := by
  cases hq : Try.prog.info? t with
  | none => rw [hq] at hz; simp at hz
  | some i =>
    rw [hq] at hz
    simp only [Option.bind_some] at hz
    unfold execOp
    simp [ho, Instr.alloc, Sem.run_bind, zeroValue, typeInfo, hq, hz, newVar, newRow, Value.cells]

theorem mset2 {b : Bx} {v : Value} {w : World} (h : Rd2 w v (pairs (canon b.2))) (hb : OkB b) : Calls Try.prog 61 #[v] w fun e w' => e = .returned (.agg (bArr b.2.testBit)) ∧ Gr w w' := by
  have := set_any v _ w h (canon_VF b.2)
  rw [maskL_canon hb.2] at this
  exact this

/-- where Of's inner loop stands -/
def OfAt (w wi : World) (f : Nat → Bool) : Prop :=
  Gr w wi ∧ wi.heap[w.heap.size]? = some (.cells (pArr fun _ => false) 33 (0, 0)) ∧ wi.heap[w.heap.size + 1]? = some (.cells (pArr f) 33 (0, 0))
theorem OfAt.gr {w wi w' : World} {f : Nat → Bool} (h : OfAt w wi f) (g : Gr wi w') : OfAt w w' f :=
  ⟨h.1.trans g, (Below.block g _ (Blk_lt h.2.1)).trans h.2.1, (Below.block g _ (Blk_lt h.2.2)).trans h.2.2⟩
theorem OfAt.ext {w wi : World} {f f' : Nat → Bool} (h : OfAt w wi f) (e : ∀ i, i < 512 → f i = f' i) : OfAt w wi f' := by rw [OfAt, ← pArr_ext e]; exact h
theorem OfAt.set {w wi : World} {f : Nat → Bool} (h : OfAt w wi f) (k : Nat) (b : Bool) : OfAt w (wi.setCell ⟨w.heap.size + 1, k, none⟩ (.bool b)) (fun i => if i = k then b else f i) := by
  obtain ⟨g, h0, h1⟩ := h
  refine ⟨g.setCell (by simp) _, ?_, ?_⟩
  · rw [heap_setCell_other _ _ _ _ (by simp)]; exact h0
  · rw [heap_setCell_same _ _ _ _ _ _ h1, pArr_set]
theorem OfAt.setRow {w wi : World} {f : Nat → Bool} (h : OfAt w wi f) (g : Nat) (cs : Array Value) (hg : w.heap.size + 1 < g) : OfAt w (wi.setRow g cs) f := by
  obtain ⟨gr, h0, h1⟩ := h
  refine ⟨gr.setRow (by omega) _, ?_, ?_⟩
  · rw [setRow_other _ _ _ _ (by omega)]; exact h0
  · rw [setRow_other _ _ _ _ (by omega)]; exact h1
/-- the box and the set of its spans, beside -/
def BesideAt (wi : World) (BB NN : Nat) (y n : Nat) (sv : Value) (m : Nat) : Prop :=
  wi.heap[BB]? = some (.cells #[.int .i64 (y : Int), .int .i64 (n : Int), sv] 56 (0, 0)) ∧ wi.heap[NN]? = some (.cells (bArr m.testBit) 97 (0, 0))
theorem BesideAt.gr {wi w' : World} {BB NN y n m : Nat} {sv : Value} (h : BesideAt wi BB NN y n sv m) (g : Gr wi w') : BesideAt w' BB NN y n sv m :=
  ⟨(Below.block g _ (Blk_lt h.1)).trans h.1, (Below.block g _ (Blk_lt h.2)).trans h.2⟩
theorem BesideAt.far {wi : World} {BB NN y n m : Nat} {sv : Value} (h : BesideAt wi BB NN y n sv m) (g k : Nat) (v : Value) (h1 : BB ≠ g) (h2 : NN ≠ g) : BesideAt (wi.setCell ⟨g, k, none⟩ v) BB NN y n sv m :=
  ⟨(heap_setCell_other _ _ _ _ h1).trans h.1, (heap_setCell_other _ _ _ _ h2).trans h.2⟩

set_option maxHeartbeats 2000000 in
set_option maxRecDepth 100000 in
theorem of_pts (v : Value) (F : List Bx) (w : World) (hr : RdF w v (F.map boxI)) (hF : OkF F) (hl : F.length ≤ 40) :
    Calls Try.prog 20 #[v] w fun e w' => e = .returned (.agg (pArr (ptF (tabF F)))) ∧ Gr w w' := by
  obtain ⟨a, cp, rfl, hcp, hx⟩ := hr
  rw [List.length_map] at hcp
  rw [List.length_map]
  have HX := Lib.hid hx
  have HF := Lib.hid hF
  have hlen' : (F.length : Int) ≤ 40 := by omega
  have HS := Lib.hid pinfo
  have HSN : ∀ m : Nat, Hid ((Try.prog.info? 97).map (·.size) = some (bArr m.testBit).size) := fun m => by unfold Hid; rw [bArr_size]; exact nums_info
  have HZ := Lib.hid (fun m : Nat => show (bArr fun _ => false).size = (bArr m.testBit).size by rw [bArr_size, bArr_size])
  have HPZ := Lib.hid (fun f : Nat → Bool => show (pArr fun _ => false).size = (pArr f).size by rw [pArr_size, pArr_size])
  have H1 := Lib.hid bArr_one
  have HP1 := Lib.hid pArr_one
  have PZ := Lib.hid (fun (ev : Operand → Value) (o : Oper) (ho : o.op = .alloc 33) (wx : World) => run_alloc_zero points_zero ev o ho wx)
  have NZ := Lib.hid (fun (ev : Operand → Value) (o : Oper) (ho : o.op = .alloc 97) (wx : World) => run_alloc_zero nums_zero ev o ho wx)
  clear hx hF
  go_enter Try.func20, Try.ntmps20
  go_wp2_with (refine Go.Great.wpList_allocTo rfl _ rfl _ _ (PZ.out _ _ rfl _) ?_)
  have A0 : OfAt w ((w.alloc (.cells (pArr fun _ => false) 33)).alloc (.cells (pArr fun _ => false) 33)) (ptF (tabF (F.take 0))) := by
    refine ⟨((Gr.refl _).alloc _).alloc _, heap_alloc2_old _ _ _, ?_⟩
    rw [heap_alloc2_new, show pArr (ptF (tabF (F.take 0))) = pArr (fun _ => false) from pArr_ext (fun i _ => by simp [ptF, tabF_nil])]
  go_loopw [10] (fun i wr => ∃ k : Nat, k ≤ F.length ∧ i = .int .i64 k ∧ OfAt w wr (ptF (tabF (F.take k)))) (fun i _ => F.length - (intOf i).toNat)
  case atStart => exact ⟨0, by omega, rfl, A0⟩
  case round =>
    clear A0
    obtain ⟨k, hk, rfl, hat⟩ := hrel
    generalize wr = wo at *
    have HA := Lib.hid hat
    by_cases hlt : k < F.length
    · obtain ⟨⟨⟨y, n⟩, m⟩, hp⟩ : ∃ p, F[k]? = some p := ⟨_, List.getElem?_eq_getElem hlt⟩
      obtain ⟨b, off, rfl, hb, hcell⟩ := HX.out (by intro e; simp at e; rw [e] at hlt; simp at hlt)
      obtain ⟨sv, c1, c2, c3, hs⟩ := hcell k (boxI ((y, n), m)) (by rw [List.getElem?_map, hp]; rfl)
      have hB : OkB ((y, n), m) := HF.out _ (List.mem_of_getElem? hp)
      rw [← hat.1.cells.1 b _ hb] at c1 c2 c3
      simp only [boxI] at c1 c2 c3 hs
      obtain ⟨sa, sc, rfl⟩ := rd2_form hs
      have hs1 := Lib.hid (hs.gr hat.1)
      have hbr : b < wo.heap.size := Nat.lt_of_lt_of_le hb hat.1.le
      have hk40 : (k : Int) ≤ 40 := by omega
      have HB := Lib.hid hB
      have HM := Lib.hid (fun i hi => midP_all F k ((y, n), m) hp i hi)
      have hlo := Blk_lt hat.2.2
      clear hcell hs hp hat
      generalize hsl : (pairs (canon m)).length = sl at *
      go_wp2_with fail
      refine (mset2 (b := ((y, n), m)) (hs1.out.alloc _) HB.out).mono ?_
      rintro e w1 ⟨rfl, g1⟩
      have A1 := Lib.hid ((HA.out.gr ((((Gr.refl wo).alloc (.cells #[.int .i64 (y : Int), .int .i64 (n : Int), .slice sa sl sc] 56)).trans g1).alloc (.cells (bArr fun _ => false) 97))).setRow w1.heap.size (bArr m.testBit) (by have := g1.le; simp at this; omega))
      have hbx : w1.heap[wo.heap.size]? = some (.cells #[.int .i64 (y : Int), .int .i64 (n : Int), .slice sa sl sc] 56 (0, 0)) := (Below.block g1 _ (by simp)).trans (heap_alloc_new _ _)
      have hbl := Blk_lt hbx
      have B1 : Hid (BesideAt ((w1.alloc (.cells (bArr fun _ => false) 97)).setRow w1.heap.size (bArr m.testBit)) wo.heap.size w1.heap.size y n (.slice sa sl sc) m) := by
        refine ⟨?_, setRow_heap _ _ _ _ _ _ (heap_alloc_new _ _)⟩
        rw [setRow_other _ _ _ _ (by omega), Below.heap_alloc _ _ _ hbl]
        exact hbx
      have HN := Lib.hid (heap_alloc_new w1 (.cells (bArr fun _ => false) 97))
      have hw1 : w.heap.size + 1 < w1.heap.size := by omega
      have HW1 := Lib.hid hw1
      have HWB := Lib.hid hlo
      clear hs1 g1 hbx c1 c2 c3 HA hw1 hlo hbl
      go_wp2_with (first
        | (refine Go.Great.wpList_allocTo rfl _ rfl _ _ (NZ.out _ _ rfl _) ?_)
        | (refine wpList_store_row rfl 97 _ _ rfl w1.heap.size _ rfl rfl 97 _ HN.out (HSN m).out (HZ.out m) (H1.out _) ?_))
      generalize hBB : wo.heap.size = BB at *
      generalize hNN : w1.heap.size = NN at *
      clear HN
      generalize (w1.alloc (.cells (bArr fun _ => false) 97)).setRow NN (bArr m.testBit) = W3 at *
      have HBB := Lib.hid hBB
      clear hBB hNN hbr
      generalize hfk : ptF (tabF (F.take k)) = fk at *
      go_loopw [17] (fun jj wi => ∃ j : Nat, j ≤ 512 ∧ jj = .int .i64 j ∧ OfAt w wi (midP fk ((y, n), m) j) ∧ BesideAt wi BB NN y n (.slice sa sl sc) m) (fun jj _ => 512 - (intOf jj).toNat)
      case atStart => exact ⟨0, by omega, rfl, A1.out.ext (fun i _ => (midP_zero _ _ _).symm), B1.out⟩
      case round =>
        clear A1 B1
        obtain ⟨j, hj, rfl, hat, hbs⟩ := hrel
        have HA := Lib.hid hat
        have HBS := Lib.hid hbs
        by_cases hjt : j < 512
        · have hj' : (j : Int) < 512 := by omega
          have r32 := rem32 j
          have q32 := quo32 j
          have hr32 : ((j % 32 : Nat) : Int) < 32 := by omega
          have d1 : wr.cell? ⟨NN, j % 32, none⟩ = some (.bool (m.testBit (j % 32))) := by rw [cell_of_row _ _ _ _ _ _ hbs.2, bArr_at _ _ (by omega)]
          have d2 : wr.cell? ⟨BB, 0, none⟩ = some (.int .i64 (y : Int)) := by rw [cell_of_row _ _ _ _ _ _ hbs.1]; rfl
          have d3 : wr.cell? ⟨BB, 1, none⟩ = some (.int .i64 (n : Int)) := by rw [cell_of_row _ _ _ _ _ _ hbs.1]; rfl
          have HNO := Lib.hid (midP_no (f := fk) (b := ((y, n), m)) (j := j))
          have HYES := Lib.hid (midP_yes (f := fk) (b := ((y, n), m)) (j := j))
          have hq16 : j / 32 < 16 := by omega
          have HIN : Hid (in16 y n (j / 32) = inC ((y, n), m) (j / 32)) := in16_hasR y HB.out.1.1 n HB.out.1.2.1 _ hq16
          clear hat hbs
          generalize j % 32 = jr at *
          generalize j / 32 = jq at *
          cases hbit : m.testBit jr
          · rw [hbit] at d1
            have hno : (m.testBit jr && inC ((y, n), m) jq) = false := by rw [hbit]; rfl
            have HN2 := Lib.hid (HA.out.ext (fun i _ => HNO.out hno i))
            clear hno HNO HYES
            go_wp2_with fail
            go_roundw
            case rel => exact ⟨j + 1, by omega, by go_num, HN2.out, HBS.out⟩
            case measure => simp [intOf]; omega
          · rw [hbit] at d1
            go_wp2_with fail
            refine (rin_any y n jq _ HB.out.1 hq16).mono ?_
            rintro e w5 ⟨rfl, g5⟩
            rw [HIN.out]
            have A5 := Lib.hid (HA.out.gr g5)
            have B5 := Lib.hid (HBS.out.gr g5)
            clear d1 d2 d3
            cases hin : inC ((y, n), m) jq
            · have hno : (m.testBit jr && inC ((y, n), m) jq) = false := by rw [hin]; simp
              have HN2 := Lib.hid (A5.out.ext (fun i _ => HNO.out hno i))
              clear hno HNO HYES g5
              go_wp2_with fail
              go_roundw
              case rel => exact ⟨j + 1, by omega, by go_num, HN2.out, B5.out⟩
              case measure => simp [intOf]; omega
            · have hyes : (m.testBit jr && inC ((y, n), m) jq) = true := by rw [hin, hbit]; rfl
              have HN2 := Lib.hid ((A5.out.set j true).ext (fun i _ => HYES.out hyes i))
              have BF := Lib.hid (B5.out.far (w.heap.size + 1) j (.bool true) (by have := HBB.out; have := HWB.out; omega) (by have := HW1.out; omega))
              have d4 : w5.cell? ⟨w.heap.size + 1, j, none⟩ = some (.bool (midP fk ((y, n), m) j j)) := by rw [cell_of_row _ _ _ _ _ _ A5.out.2.2, pArr_at _ _ hjt]
              have d5 := frozen_of_row _ _ j _ _ A5.out.2.2
              clear hyes HNO HYES g5
              go_wp2_with fail
              go_roundw
              case rel => exact ⟨j + 1, by omega, by go_num, HN2.out, BF.out⟩
              case measure => simp [intOf]; omega
        · obtain rfl : j = 512 := by omega
          clear hat hbs
          go_wp2_with fail
          go_roundw
          case rel => exact ⟨k + 1, by omega, by go_num, HA.out.ext HM.out⟩
          case measure => simp [intOf]; omega
    · obtain rfl : k = F.length := by omega
      rw [List.take_length] at hat
      have HR := Lib.hid hat.2.1
      have HB := Lib.hid hat.2.2
      have HG := Lib.hid hat.1
      clear hat HA
      go_wp2_with (first
        | (refine wpList_load_row rfl 33 _ rfl (w.heap.size + 1) rfl 33 _ (0, 0) _ HB.out Try.underlying33 rfl (HS.out _) ?_)
        | (refine wpList_store_row rfl 33 _ _ rfl w.heap.size _ rfl rfl 33 _ HR.out (HS.out _) (HPZ.out _) (HP1.out _) ?_))
      refine bodyPost_ret (v := .agg (pArr (ptF (tabF F)))) (results_cell_row Try.results20 _ _ w.heap.size 33 _ (0, 0) _ rfl (setRow_heap _ _ _ _ _ _ HR.out) Try.underlying33 rfl (HS.out _)) rfl ⟨rfl, ?_⟩
      exact HG.out.setRow (Nat.le_refl _) _
end Go.Proofs.Ythnoafmdecehcaa
