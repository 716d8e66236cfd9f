/- The contracts of package filter's has, setOf and tableOf. -/
import Derived.Test.YthnoafmdecehcaaFilA
import Derived.Test.YthnoafmdecehcaaCubeH
import Derived.Test.YthnoafmdecehcaaSetB
namespace Rm
open Go Go.RowKit
theorem u64_pow (n : Nat) (h : n ≤ 32) : IntKind.u64.wrap (2 ^ n) = ((2 ^ n : Nat) : Int) := by
  rw [IntKind.wrap_u64]
  have h1 : (2 : Nat) ^ n ≤ 2 ^ 32 := Nat.pow_le_pow_right (by omega) h
  have h2 : ((2 ^ n : Nat) : Int) = (2 : Int) ^ n := by simp
  rw [← h2]
  generalize 2 ^ n = x at *
  omega
theorem bit_eq64 (m n : Nat) (hm : m < 2 ^ 32) (hn : n < 32) : (bits .and .u64 (m : Int) (IntKind.u64.wrap (2 ^ n)) != 0) = m.testBit n := by
  have h1 : (2 : Nat) ^ n < 2 ^ 32 := Nat.pow_lt_pow_right (by omega) hn
  rw [u64_pow n (by omega), u64_and_nat m (2 ^ n) (by omega) (by omega), ← and_pow_bne]
  rw [Bool.eq_iff_iff]
  simp only [bne_iff_ne, ne_eq]
  omega
/-- the numbers from f to t -/
theorem fill_bit (f t i : Nat) (h : f ≤ t) : (2 ^ t - 2 ^ f).testBit i = decide (f ≤ i ∧ i < t) := by
  obtain ⟨d, rfl⟩ : ∃ d, t = f + d := ⟨t - f, by omega⟩
  have e : 2 ^ (f + d) - 2 ^ f = 2 ^ f * (2 ^ d - 1) := by rw [Nat.pow_add, Nat.mul_sub, Nat.mul_one]
  rw [e, Nat.testBit_two_pow_mul, Nat.testBit_two_pow_sub_one, Bool.eq_iff_iff]
  simp
  omega
theorem or_fill (m f t : Nat) (h : f ≤ t) : m ||| (2 ^ t - 2 ^ f) = orTo m f (t - f) := by
  apply Nat.eq_of_testBit_eq
  intro i
  rw [Nat.testBit_or, fill_bit f t i h, orTo_bit]
  congr 2
  have : f + (t - f) = t := by omega
  rw [this]
theorem fill_eq (m f t : Nat) (hm : m < 2 ^ 32) (h : f ≤ t) (ht : t ≤ 32) : bits .or .u64 (m : Int) (IntKind.u64.wrap (IntKind.u64.wrap (2 ^ t) - IntKind.u64.wrap (2 ^ f))) = ((orTo m f (t - f) : Nat) : Int) := by
  have h1 : (2 : Nat) ^ t ≤ 2 ^ 32 := Nat.pow_le_pow_right (by omega) ht
  have h2 : (2 : Nat) ^ f ≤ 2 ^ t := Nat.pow_le_pow_right (by omega) h
  rw [u64_pow t ht, u64_pow f (by omega), ← or_fill m f t h]
  have e : IntKind.u64.wrap (((2 ^ t : Nat) : Int) - ((2 ^ f : Nat) : Int)) = ((2 ^ t - 2 ^ f : Nat) : Int) := by
    rw [IntKind.wrap_u64]
    generalize 2 ^ t = x at *
    generalize 2 ^ f = y at *
    omega
  have h3 : 2 ^ t - 2 ^ f < 18446744073709551616 := Nat.lt_of_le_of_lt (Nat.sub_le _ _) (by omega)
  rw [e, u64_or_nat m _ (by omega) h3]
/-- a table as an array -/
def tArr (T : Nat → Nat) : Array Value := ((List.range 16).map fun i => Value.int .u64 (T i : Nat)).toArray
theorem tArr_size (T : Nat → Nat) : (tArr T).size = 16 := by simp [tArr]
theorem tArr_at (T : Nat → Nat) (i : Nat) (h : i < 16) : (tArr T)[i]? = some (.int .u64 (T i : Nat)) := by simp [tArr, h]
theorem tArr_one (T : Nat → Nat) : (tArr T).all (·.oneCell') = true := by
  simp [tArr, Value.oneCell']
theorem tArr_ext {s t : Nat → Nat} (h : ∀ i, i < 16 → s i = t i) : tArr s = tArr t := by
  unfold tArr
  congr 1
  apply List.map_congr_left
  intro i hi
  rw [h i (List.mem_range.1 hi)]
theorem tArr_set (s : Nat → Nat) (k : Nat) (b : Nat) (hk : k < 16) : (tArr s).setIfInBounds k (.int .u64 (b : Nat)) = tArr (fun i => if i = k then b else s i) := by
  apply Array.ext
  · simp [tArr]
  · intro i h1 h2
    simp [tArr] at h1 h2 ⊢
    by_cases e : i = k
    · subst e; simp
    · have : ¬ k = i := fun h => e h.symm
      simp [this, e]
end Rm
namespace Go.Proofs.Ythnoafmdecehcaa
open Go.RowKit Rm
set_option linter.unusedVariables false

set_option maxHeartbeats 400000 in
set_option maxRecDepth 100000 in
theorem fhas_any (m n : Nat) (w : World) (hm : m < 2 ^ 32) (hn : n < 32) :
    Calls Try.prog 63 #[.int .u64 m, .int .i64 n] w fun e w' => e = .returned (.bool (m.testBit n)) ∧ w = w' := by
  have h1 : ((n : Nat) : Int) < 32 := by omega
  have HB := Lib.hid (bit_eq64 m n hm hn)
  clear hm
  go_enter Try.func63, Try.ntmps63
  go_wp2
  go_ret
  exact ⟨by rw [← HB.out]; rfl, rfl⟩

set_option maxHeartbeats 1000000 in
set_option maxRecDepth 100000 in
theorem setOf_any (v : Value) (L : List (Nat × Nat)) (w : World) (hr : Rd2 w v (pairs L)) (hv : VF 0 L) :
    Calls Try.prog 85 #[v] w fun e w' => e = .returned (.int .u64 (maskL L : Nat)) ∧ Gr w w' := by
  obtain ⟨a, cp, rfl, hcp, hx⟩ := hr
  rw [pairs_len] at hcp
  rw [pairs_len]
  have HX := Lib.hid hx
  have HV := Lib.hid hv
  have hlen := hv.len16
  have hlen' : (L.length : Int) ≤ 16 := by omega
  clear hx hv
  go_enter Try.func85, Try.ntmps85
  go_wp2
  go_loopw [3, 8] (fun m i wr => ∃ k : Nat, k ≤ L.length ∧ i = .int .i64 k ∧ m = .int .u64 (maskL (L.take k) : Nat) ∧ Gr w wr) (fun _ i _ => L.length - (intOf i).toNat)
  case atStart => exact ⟨0, by omega, rfl, rfl, Gr.refl _⟩
  case round =>
    obtain ⟨k, hk, rfl, rfl, hg⟩ := hrel
    generalize wr = wo at *
    by_cases hlt : k < L.length
    · obtain ⟨⟨f, t⟩, hp⟩ : ∃ p, L[k]? = some p := ⟨_, List.getElem?_eq_getElem hlt⟩
      obtain ⟨b, off, rfl, hb, hcell⟩ := HX.out (by intro e; rw [← pairs_len, e] at hlt; simp at hlt)
      have c1 : w.cell? ⟨b, off + k * 2, none⟩ = some (.int .i64 f) := (hcell k _ (pairs_at hp)).1
      have c2 : w.cell? ⟨b, off + k * 2 + 1, none⟩ = some (.int .i64 t) := (hcell k _ (pairs_at hp)).2
      rw [← hg.cells.1 b _ hb] at c1 c2
      have hbr : b < wo.heap.size := Nat.lt_of_lt_of_le hb hg.le
      have hft : f < t ∧ t ≤ 32 := HV.out.le (f, t) (List.mem_of_getElem? hp)
      have HM := Lib.hid (maskL_take hp)
      have hml : maskL (L.take k) < 2 ^ 32 := maskL_lt (fun p hp => HV.out.le p (List.mem_of_mem_take hp))
      clear hcell
      generalize maskL (L.take k) = m at *
      have HF := Lib.hid (fill_eq m f t hml (by omega) hft.2)
      have hk16 : (k : Int) ≤ 16 := by omega
      have hf32 : (f : Int) < 32 := by omega
      have ht32 : (t : Int) ≤ 32 := by omega
      clear hml
      go_wp2
      go_quiet (fail)
      go_wp2
      go_roundw
      case rel => exact ⟨k + 1, by omega, by go_num, by rw [HM.out, ← HF.out], (hg.alloc _).drewN _⟩
      case measure => simp [intOf]; omega
    · obtain rfl : k = L.length := by omega
      go_wp2
      go_ret
      exact ⟨by rw [List.take_length]; rfl, hg⟩

theorem table_info : (Try.prog.info? 104).map (·.size) = some 16 := by kernel_rfl
/-- the table in the making: below j the box has been added -/
def midT (F : List Bx) (b : Bx) (k j t : Nat) : Nat := if t < j then addB t (tabF (F.take k) t) b else tabF (F.take k) t
/-- where the loops stand -/
def TabAt (w wr : World) (T : Nat → Nat) : Prop := Gr w wr ∧ wr.heap[w.heap.size + 1]? = some (.cells (tArr T) 104 (0, 0)) ∧ wr.heap[w.heap.size]? = some (.cells (tArr fun _ => 0) 104 (0, 0))
theorem TabAt.more {w wr w' : World} {T : Nat → Nat} (h : TabAt w wr T) (g : Gr wr w') : TabAt w w' T :=
  ⟨h.1.trans g, (Below.block g _ (Blk_lt h.2.1)).trans h.2.1, (Below.block g _ (Blk_lt h.2.2)).trans h.2.2⟩
theorem TabAt.set {w wr : World} {T : Nat → Nat} (h : TabAt w wr T) (k m : Nat) (hk : k < 16) : TabAt w (wr.setCell ⟨w.heap.size + 1, k, none⟩ (.int .u64 (m : Nat))) (fun i => if i = k then m else T i) := by
  refine ⟨h.1.setCell (by simp) _, ?_, ?_⟩
  · rw [heap_setCell_same _ _ _ _ _ _ h.2.1, tArr_set _ _ _ hk]
  · rw [heap_setCell_other _ _ _ _ (by simp)]; exact h.2.2
theorem TabAt.ext {w wr : World} {T T' : Nat → Nat} (h : TabAt w wr T) (e : ∀ i, i < 16 → T i = T' i) : TabAt w wr T' := by rw [TabAt, ← tArr_ext e]; exact h
/-- a box alone in its block -/
def Three (w : World) (b : Nat) (y n : Int) (s : Value) : Prop := b < w.heap.size ∧ w.cell? ⟨b, 0, none⟩ = some (.int .i64 y) ∧ w.cell? ⟨b, 1, none⟩ = some (.int .i64 n) ∧ w.cell? ⟨b, 2, none⟩ = some s
theorem Three.gr {w w' : World} {b : Nat} {y n : Int} {s : Value} (h : Three w b y n s) (g : Gr w w') : Three w' b y n s :=
  ⟨Nat.lt_of_lt_of_le h.1 g.le, (g.cells.1 b 0 h.1).trans h.2.1, (g.cells.1 b 1 h.1).trans h.2.2.1, (g.cells.1 b 2 h.1).trans h.2.2.2⟩
theorem Three.new (w : World) (y n : Int) (s : Value) (t : TypeId) : Three (w.alloc (.cells #[.int .i64 y, .int .i64 n, s] t)) w.heap.size y n s := by
  refine ⟨by simp, ?_, ?_, ?_⟩ <;> simp [go_sem]
theorem Three.far {w : World} {b : Nat} {y n : Int} {s : Value} (h : Three w b y n s) {p : Addr} (hp : b ≠ p.block) (u : Value) : Three (w.setCell p u) b y n s := by
  obtain ⟨h1, h2, h3, h4⟩ := h
  refine ⟨by simpa using h1, ?_, ?_, ?_⟩
  · rw [World.cell?_setCell_other _ _ _ _ (fun e => hp (by rw [e]))]; exact h2
  · rw [World.cell?_setCell_other _ _ _ _ (fun e => hp (by rw [e]))]; exact h3
  · rw [World.cell?_setCell_other _ _ _ _ (fun e => hp (by rw [e]))]; exact h4

set_option maxHeartbeats 1000000 in
set_option maxRecDepth 100000 in
theorem tableOf_any (v : Value) (F : List Bx) (w : World) (hr : RdF w v (F.map boxI)) (hF : OkF F) (hl : F.length ≤ 40) :
    Calls Try.prog 64 #[v] w fun e w' => e = .returned (.agg (tArr (tabF F))) ∧ Gr w w' := by
  obtain ⟨a, cp, rfl, hcp, hx⟩ := hr
  rw [List.length_map] at hcp
  rw [List.length_map]
  have HX := Lib.hid hx
  have HF := Lib.hid hF
  have hlen' : (F.length : Int) ≤ 40 := by omega
  clear hx hF
  go_enter Try.func64, Try.ntmps64
  go_wp2
  go_loopw [12] (fun i wr => ∃ k : Nat, k ≤ F.length ∧ i = .int .i64 k ∧ TabAt w wr (tabF (F.take k))) (fun i _ => F.length - (intOf i).toNat)
  case atStart =>
    refine ⟨0, by omega, rfl, ((Gr.refl _).alloc _).alloc _, ?_, ?_⟩
    · rw [heap_alloc2_new]; rfl
    · rw [heap_alloc2_old]; rfl
  case round =>
    obtain ⟨k, hk, rfl, hat⟩ := hrel
    generalize wr = wo at *
    have hg := hat.1
    by_cases hlt : k < F.length
    · obtain ⟨⟨⟨y, n⟩, m⟩, hp⟩ : ∃ p, F[k]? = some p := ⟨_, List.getElem?_eq_getElem hlt⟩
      obtain ⟨b, off, rfl, hb, hcell⟩ := HX.out (by intro e; rw [← List.length_map (f := boxI), e] at hlt; simp at hlt)
      obtain ⟨sv, c1, c2, c3, hs⟩ := hcell k (boxI ((y, n), m)) (by simp [hp])
      rw [← hg.cells.1 b _ hb] at c1 c2 c3
      simp only [boxI] at c1 c2 c3 hs
      obtain ⟨sa, sc, rfl⟩ := rd2_form hs
      have hok : OkB ((y, n), m) := HF.out _ (List.mem_of_getElem? hp)
      have hs1 := Lib.hid (hs.gr hg)
      have hbr : b < wo.heap.size := Nat.lt_of_lt_of_le hb hg.le
      have HT := Lib.hid (fun t => tabF_take hp t)
      have HO := Lib.hid hok
      have HL := Lib.hid (fun t => tabF_lt (HF.out.take k) t)
      have hk16 : (k : Int) ≤ 40 := by omega
      have HA := Lib.hid hat
      have hmk := maskL_canon hok.2
      clear hcell hs hp hat hok
      go_wp2_with fail
      refine (setOf_any _ _ _ (hs1.out.alloc _) (canon_VF m)).mono ?_
      rw [hmk]
      rintro e w1 ⟨rfl, g1⟩
      have T1 := Lib.hid ((Three.new wo y n (.slice sa (pairs (canon m)).length sc) 56).gr g1)
      have A1 := Lib.hid ((HA.out.more ((Gr.refl _).alloc (.cells #[.int .i64 y, .int .i64 n, .slice sa (pairs (canon m)).length sc] 56))).more g1)
      have hbb : wo.heap.size ≠ w.heap.size + 1 := by have := Blk_lt HA.out.2.1; omega
      clear HA hs1 hg c1 c2 c3 g1 hmk
      generalize wo.heap.size = BB at *
      go_wp2_with fail
      go_loopw [19] (fun jj wi => ∃ j : Nat, j ≤ 16 ∧ jj = .int .i64 j ∧ TabAt w wi (midT F ((y, n), m) k j) ∧ Three wi BB y n (.slice sa (pairs (canon m)).length sc)) (fun jj _ => 16 - (intOf jj).toNat)
      case atStart => exact ⟨0, by omega, rfl, A1.out.ext (fun i _ => by simp [midT]), T1.out⟩
      case round =>
        obtain ⟨j, hj, rfl, hti, h3⟩ := hrel
        by_cases hjt : j < 16
        · have hin : hasR (y : Int) (n : Int) (j : Int) = inC ((y, n), m) j := rfl
          have HTI := Lib.hid hti
          have H3 := Lib.hid h3
          obtain ⟨t1, t2, t3, t4⟩ := h3
          have hj16 : (j : Int) < 16 := by omega
          clear hti
          cases hc : inC ((y, n), m) j
          · rw [hc] at hin
            have E : Hid (∀ i, i < 16 → midT F ((y, n), m) k j i = midT F ((y, n), m) k (j + 1) i) := by
              intro i hi
              unfold midT
              by_cases e1 : i < j
              · rw [if_pos e1, if_pos (by omega)]
              · rw [if_neg e1]
                by_cases e2 : i < j + 1
                · obtain rfl : i = j := by omega
                  rw [if_pos e2]
                  simp [addB, hc]
                · rw [if_neg e2]
            clear hc
            go_wp2_with fail
            refine (has_any _ _ _ _).mono ?_
            rw [hin]
            rintro e w2 ⟨rfl, g2⟩
            have A2 := Lib.hid (HTI.out.more g2)
            have T2 := Lib.hid (H3.out.gr g2)
            clear g2
            go_wp2_with fail
            go_roundw
            case rel => exact ⟨j + 1, by omega, by go_num, A2.out.ext E.out, T2.out⟩
            case measure => simp [intOf]; omega
          · rw [hc] at hin
            have E : Hid (∀ i, i < 16 → (if i = j then (tabF (F.take k) j ||| m) else midT F ((y, n), m) k j i) = midT F ((y, n), m) k (j + 1) i) := by
              intro i hi
              unfold midT
              by_cases e1 : i < j
              · rw [if_neg (by omega), if_pos e1, if_pos (by omega)]
              · by_cases e2 : i < j + 1
                · obtain rfl : i = j := by omega
                  rw [if_pos rfl, if_pos e2]
                  simp [addB, hc]
                · rw [if_neg (by omega), if_neg e1, if_neg e2]
            have HU := Lib.hid (u64_or_nat (tabF (F.take k) j) m (by have := HL.out j; omega) (by have := HO.out.2; omega))
            clear hc
            go_wp2_with fail
            refine (has_any _ _ _ _).mono ?_
            rw [hin]
            rintro e w2 ⟨rfl, g2⟩
            have A2 := Lib.hid (HTI.out.more g2)
            have T2 := Lib.hid (H3.out.gr g2)
            have hc : w2.cell? ⟨w.heap.size + 1, j, none⟩ = some (.int .u64 (tabF (F.take k) j : Nat)) := by
              rw [cell_of_row _ _ _ _ _ _ A2.out.2.1, tArr_at _ j hjt]
              simp [midT]
            have hfz := frozen_of_row _ _ j _ _ A2.out.2.1
            clear g2
            go_wp2_with fail
            go_roundw
            case rel => exact ⟨j + 1, by omega, by go_num, by have := (A2.out.set j _ hjt).ext E.out; rw [← HU.out] at this; exact this, T2.out.far hbb _⟩
            case measure => simp [intOf]; omega
        · obtain rfl : j = 16 := by omega
          have HTI := Lib.hid hti
          clear hti
          go_wp2
          go_roundw
          case rel => exact ⟨k + 1, by omega, by go_num, HTI.out.ext (fun i hi => by rw [HT.out i]; simp [midT, hi])⟩
          case measure => simp [intOf]; omega
    · obtain rfl : k = F.length := by omega
      rw [List.take_length] at hat
      have HS : Hid ((Try.prog.info? 104).map (·.size) = some (tArr (tabF F)).size) := by rw [tArr_size]; exact table_info
      have HO : Hid ((tArr fun _ => 0).size = (tArr (tabF F)).size) := by rw [tArr_size, tArr_size]; rfl
      have H1 := Lib.hid (tArr_one (tabF F))
      have HB := Lib.hid hat.2.1
      have HR := Lib.hid hat.2.2
      clear hat
      go_wp2_with (first | (refine wpList_load_row rfl 104 _ rfl (w.heap.size + 1) rfl 104 _ (0, 0) _ HB.out Try.underlying104 rfl HS.out ?_) | (refine wpList_store_row rfl 104 _ _ rfl w.heap.size _ rfl rfl 104 _ HR.out HS.out HO.out H1.out ?_))
      refine bodyPost_ret (v := .agg (tArr (tabF F))) (results_cell_row Try.results64 _ _ w.heap.size 104 _ (0, 0) _ rfl (setRow_heap _ _ _ _ _ _ HR.out) Try.underlying104 rfl HS.out) rfl ⟨rfl, ?_⟩
      exact hg.setRow (Nat.le_refl _) _
end Go.Proofs.Ythnoafmdecehcaa
