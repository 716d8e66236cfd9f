/- The contract of package filter's boxes. -/
import Derived.Test.YthnoafmdecehcaaFilI
import Derived.Deep.RegionHeld3
import Derived.Deep.AppendLies
import Derived.Deep.DrawnRows
namespace Rm
open Go Go.RowKit
/-- the cells of boxes, each with the slice of its numbers -/
def flatO (l : List (Bx × Value)) : List Value := l.flatMap fun b => [.int .i64 (b.1.1.1 : Nat), .int .i64 (b.1.1.2 : Nat), b.2]
theorem flatO_cons (p : Bx × Value) (l : List (Bx × Value)) : flatO (p :: l) = .int .i64 (p.1.1.1 : Nat) :: .int .i64 (p.1.1.2 : Nat) :: p.2 :: flatO l := rfl
theorem flatO_app (l r : List (Bx × Value)) : flatO (l ++ r) = flatO l ++ flatO r := by simp [flatO]
theorem flatO_at (l : List (Bx × Value)) (i : Nat) (p : Bx × Value) (h : l[i]? = some p) : (flatO l)[i * 3]? = some (.int .i64 (p.1.1.1 : Nat)) ∧ (flatO l)[i * 3 + 1]? = some (.int .i64 (p.1.1.2 : Nat)) ∧ (flatO l)[i * 3 + 2]? = some p.2 := by
  induction l generalizing i with
  | nil => simp at h
  | cons q l ih =>
    rw [flatO_cons]
    cases i with
    | zero => simp at h; subst h; simp
    | succ i =>
      have e : (i + 1) * 3 = i * 3 + 1 + 1 + 1 := by omega
      rw [e]
      simpa using ih i (by simpa using h)
end Rm
namespace Go.Proofs.Ythnoafmdecehcaa
open Go.RowKit Rm
set_option linter.unusedVariables false
attribute [local go_sem ↓] Go.wp_at_zero Go.wp_at_succ

theorem box_info : (Try.prog.info? 56).map (fun i => (i.zero, i.size, i.bytes)) = some (some (.agg #[.int .i64 0, .int .i64 0, .slice none 0 0]), 3, 40) := by kernel_rfl
/-- boxes in new memory -/
def OutAt (w wr : World) (O : List (Bx × Value)) (u : Value) : Prop :=
  Gr w wr ∧ wr.ownsRow w.heap.size 56 3 u O.length (flatO O) ∧
  ∀ p ∈ O, wr.ownsRow w.heap.size 53 2 p.2 (pairs (canon p.1.2)).length (flat (pairs (canon p.1.2))) ∧ (p.2.ownBlock = none ∨ p.2.ownBlock ≠ u.ownBlock)
theorem OutAt.snoc {w wo w1 w2 w3 : World} {O : List (Bx × Value)} {u sv : Value} {b : Bx} {g cap : Nat} {o : Obj} (h : OutAt w wo O u) (g1 : Gr wo w1) (hl : ListAt w1 w2 (canon b.2) sv)
    (hown : w3.ownsRow w.heap.size 56 3 (.slice (some ⟨g, 0, none⟩) (O.length + 1) cap) (O.length + 1) (flatO O ++ [.int .i64 (b.1.1 : Nat), .int .i64 (b.1.2 : Nat), sv]))
    (hgrow : (w2.alloc o).grownBy w3 u.ownBlock) (hat : u.ownBlock = some g ∨ g = w2.heap.size + 1) : OutAt w w3 (O ++ [(b, sv)]) (.slice (some ⟨g, 0, none⟩) (O.length + 1) cap) := by
  obtain ⟨hg, ho, hs⟩ := h
  have hlt : ∀ k, u.ownBlock = some k → k < wo.heap.size := fun k hk => (ho.lt k hk).2
  have g2 := (g1.trans hl.1).alloc o
  refine ⟨Gr.grown (hg.trans g2) hgrow (fun k hk => (ho.lt k hk).1), ?_, ?_⟩
  · have e0 : (O ++ [(b, sv)]).length = O.length + 1 := by simp
    rw [e0, flatO_app]
    exact hown
  · intro p hp
    have far : ∀ {z : Value} {bb : Nat} {e : TypeId} {sz nn : Nat} {xs : List Value}, (w2.alloc o).ownsRow bb e sz z nn xs → (z.ownBlock = none ∨ z.ownBlock ≠ u.ownBlock) → (∀ k, z.ownBlock = some k → k < w2.heap.size + 1) →
        w3.ownsRow bb e sz z nn xs ∧ (z.ownBlock = none ∨ z.ownBlock ≠ some g) := by
      intro z bb e sz nn xs hz hne hk
      refine ⟨hz.kept hgrow hne, ?_⟩
      rcases hne with h0 | hne
      · exact .inl h0
      · refine .inr fun e0 => ?_
        rcases hat with h1 | h1
        · exact hne (e0.trans h1.symm)
        · have := hk _ e0; omega
    rcases List.mem_append.1 hp with hp | hp
    · obtain ⟨k1, k2⟩ := hs p hp
      refine far (own_gr k1 g2) k2 (fun k hk => ?_)
      have := (k1.lt k hk).2
      have := g1.le
      have := hl.1.le
      omega
    · obtain rfl : p = (b, sv) := by simpa using hp
      have hb : ∀ k, sv.ownBlock = some k → w1.heap.size ≤ k ∧ k < w2.heap.size := fun k hk => hl.2.lt k hk
      have hbase : (w2.alloc o).ownsRow w.heap.size 53 2 sv (pairs (canon b.2)).length (flat (pairs (canon b.2))) := (ListAt.more (hg.trans g1) hl).2.alloc o
      refine far hbase ?_ (fun k hk => by have := (hb k hk).2; omega)
      cases hsv : sv.ownBlock with
      | none => exact .inl rfl
      | some k =>
        refine .inr fun e0 => ?_
        have h1 := (hb k hsv).1
        have h2 := hlt k e0.symm
        have := g1.le
        omega
theorem rd_own {wr : World} {base : Nat} {O : List (Bx × Value)} {u : Value} (h : wr.ownsRow base 56 3 u O.length (flatO O)) (hs : ∀ p ∈ O, wr.ownsRow base 53 2 p.2 (pairs (canon p.1.2)).length (flat (pairs (canon p.1.2)))) : RdF wr u ((O.map (·.1)).map boxI) := by
  obtain ⟨hl, h⟩ := h
  rcases h with ⟨rfl, h0⟩ | ⟨g, cap, cur, rfl, _, hg, hn, _, hz, ht⟩
  · have : O = [] := List.eq_nil_of_length_eq_zero h0
    subst this
    exact RdF.nil _
  · refine ⟨some ⟨g, 0, none⟩, cap, by simp, by simpa using hn, fun hne => ⟨g, 0, rfl, Blk_lt hg, fun i p hp => ?_⟩⟩
    simp only [List.map_map, List.getElem?_map, Option.map_eq_some_iff] at hp
    obtain ⟨q, hq, rfl⟩ := hp
    have hi : i < O.length := (List.getElem?_eq_some_iff.1 hq).1
    have hf := flatO_at O i q hq
    rw [← ht] at hf
    have key : ∀ j, j < O.length * 3 → wr.cell? ⟨g, 0 + j, none⟩ = (cur.toList.take (O.length * 3))[j]? := by
      intro j hj
      rw [List.getElem?_take_of_lt hj]
      simp [World.cell?, hg]
    have k2 := key (i * 3 + 1) (by omega)
    have k3 := key (i * 3 + 2) (by omega)
    rw [← Nat.add_assoc] at k2 k3
    exact ⟨q.2, (key (i * 3) (by omega)).trans hf.1, k2.trans hf.2.1, k3.trans hf.2.2, Rd2.own (hs q (List.mem_of_getElem? hq))⟩
theorem OutAt.rd {w wr : World} {O : List (Bx × Value)} {u : Value} (h : OutAt w wr O u) : RdF wr u ((O.map (·.1)).map boxI) := rd_own h.2.1 (fun p hp => (h.2.2 p hp).1)
theorem outAt_nil (w : World) : OutAt w w [] (.slice none 0 0) := ⟨Gr.refl _, World.ownsRow_nil _ _ _ _, fun p hp => by cases hp⟩

theorem fspans_at (B : Nat) (y n : Int) (m : Nat) (w : World) (hm : m < 2 ^ 32) (h : Three w B y n (.int .u64 (m : Int))) :
    Calls Try.prog 91 #[.int .u64 m] w fun e w' => ∃ a c, e = .returned (.slice a (pairs (canon m)).length c) ∧ ListAt w w' (canon m) (.slice a (pairs (canon m)).length c) ∧ B < w'.heap.size ∧
      w'.cell? ⟨B, 0, none⟩ = some (.int .i64 y) ∧ w'.cell? ⟨B, 1, none⟩ = some (.int .i64 n) ∧ w'.cell? ⟨B, 2, none⟩ = some (.int .u64 (m : Int)) :=
  (fspans_any m w hm).mono fun e w' ⟨u, he, hu⟩ => by
    obtain ⟨a, c, rfl, _⟩ := own_form hu.2
    exact ⟨a, c, he, hu, h.gr hu.1⟩

set_option maxHeartbeats 2000000 in
set_option maxRecDepth 100000 in
theorem boxes_any (T : Nat → Nat) (w : World) (hT : ∀ t, t < 16 → T t < 2 ^ 32) :
    Calls Try.prog 71 #[.agg (tArr T)] w fun e w' => ∃ u O, e = .returned u ∧ Gr w w' ∧ (∃ wl, Gr w wl ∧ OutAt wl w' O u) ∧ OkF (O.map (·.1)) ∧ O.length ≤ (blkT T 16).length ∧ ∀ t, t < 16 → tabF (O.map (·.1)) t = T t := by
  obtain ⟨i0, hi0, hz0, hz1, hz2⟩ := info_parts box_info
  have HS : Hid ((Try.prog.info? 104).map (·.size) = some (tArr T).size) := by rw [tArr_size]; exact table_info
  have HT := Lib.hid hT
  clear hT
  go_enter Try.func71, Try.ntmps71
  go_wp2_with (refine wpList_load_row rfl 104 _ rfl w.heap.size rfl 104 (tArr T) (0, 0) _ (heap_alloc_new _ _) Try.underlying104 rfl HS.out ?_)
  refine (blocks_any T _).mono ?_
  rintro e w1 ⟨u, rfl, hu⟩
  have R1 := Lib.hid hu.rd
  have G1 := ((Gr.refl w).alloc _).trans hu.1
  clear hu
  go_wp2_with fail
  go_loopw [3, 10] (fun v ii wr => ∃ (i : Nat) (M : List Bx), i ≤ 4 ∧ ii = .int .i64 i ∧ Gr w wr ∧ Rd3 wr v M ∧ OkF M ∧ M.length ≤ (blkT T 16).length ∧ (∀ t, t < 16 → tabF M t = T t)) (fun _ ii _ => 4 - (intOf ii).toNat)
  case atStart => exact ⟨0, blkT T 16, by omega, rfl, G1, R1.out, blkT_ok HT.out (by omega), Nat.le_refl _, fun t ht => by rw [tab_blkT T ht 16 (by omega), if_pos ht]⟩
  case round =>
    clear G1 R1
    obtain ⟨i, M, hi, rfl, hg, hrd, hM, hMl, hMt⟩ := hrel
    have hb16 := blkT_len T 16
    have HM := Lib.hid hM
    have HMt := Lib.hid hMt
    have HR := Lib.hid hrd
    clear hM hMt
    by_cases hlt : i < 4
    · have hp : wrap64 (2 ^ i) = ((2 ^ i : Nat) : Int) := by
        have h1 := pow16 i hlt
        have h2 : ((2 ^ i : Nat) : Int) = (2 : Int) ^ i := by simp
        rw [← h2]
        generalize 2 ^ i = x at *
        unfold wrap64
        omega
      have hi4 : (i : Int) < 4 := by omega
      clear hrd
      go_wp2_with fail
      rw [hp]
      refine (merge_any _ M i _ HR.out (by omega) HM.out hlt).mono ?_
      rintro e w2 ⟨u2, M2, rfl, hb2, hm2⟩
      have R2 := Lib.hid hb2.rd
      have G2 := hg.trans hb2.1
      have H2 := Lib.hid hm2
      clear hb2 hm2 hp
      go_wp2_with fail
      go_roundw
      case rel => exact ⟨i + 1, M2, by omega, by go_num, G2, R2.out, H2.out.1, by have := H2.out.2.1; omega, fun t ht => by rw [H2.out.2.2 t ht, List.take_length]; exact HMt.out t ht⟩
      case measure => simp [intOf]; omega
    · obtain rfl : i = 4 := by omega
      obtain ⟨a, cp, rfl, hcp, hx⟩ := hrd
      have HX := Lib.hid hx
      have hlen' : (M.length : Int) ≤ 16 := by omega
      clear hx
      generalize wr = wl at *
      go_wp2_with fail
      go_loopw [5, 20] (fun v kk wr => ∃ (k : Nat) (O : List (Bx × Value)), k ≤ M.length ∧ kk = .int .i64 k ∧ O.map (·.1) = M.take k ∧ OutAt wl wr O v) (fun _ kk _ => M.length - (intOf kk).toNat)
      case atStart => exact ⟨0, [], by omega, rfl, rfl, outAt_nil _⟩
      case round =>
        obtain ⟨k, O, hk, rfl, hO, hat⟩ := hrel
        have hOl : k = O.length := by have := congrArg List.length hO; simp at this; omega
        subst hOl
        have HO := Lib.hid hO
        have HA := Lib.hid hat
        clear hO
        generalize wr = wo at *
        by_cases hlt : O.length < M.length
        · obtain ⟨⟨⟨y, n⟩, m⟩, hp⟩ : ∃ p, M[O.length]? = some p := ⟨_, List.getElem?_eq_getElem hlt⟩
          obtain ⟨b, off, rfl, hb, hcell⟩ := HX.out (by intro e; rw [e] at hlt; simp at hlt)
          obtain ⟨c1, c2, c3⟩ := hcell O.length _ hp
          have hgl := hat.1
          rw [← hgl.cells.1 b _ hb] at c1 c2 c3
          simp only at c1 c2 c3
          have hbr : b < wo.heap.size := Nat.lt_of_lt_of_le hb hgl.le
          have hm32 := Lib.hid (HM.out _ (List.mem_of_getElem? hp)).2
          have hk16 : (O.length : Int) < 16 := by omega
          have HP := Lib.hid hp
          obtain ⟨ua, uc, rfl, huc⟩ := own_form hat.2.1
          clear hcell hp hat
          go_wp2_with fail
          have T1 := Lib.hid (Three.new wo y n (.int .u64 (m : Int)) 133)
          have HA1 := Lib.hid (HA.out.2.1.alloc (.cells #[.int .i64 (y : Int), .int .i64 (n : Int), .int .u64 (m : Int)] 133)).drew
          have GA : Hid (Gr wo (wo.alloc (.cells #[.int .i64 (y : Int), .int .i64 (n : Int), .int .u64 (m : Int)] 133)).drew) := ((Gr.refl wo).alloc _).drew
          have HBN : Hid (∀ kk, (Value.slice ua O.length uc).ownBlock = some kk → kk < wo.heap.size) := fun kk hkk => (HA.out.2.1.lt kk hkk).2
          have hbase := HA.out.1.le
          clear c1 c2 c3
          generalize wo.alloc (.cells #[.int .i64 (y : Int), .int .i64 (n : Int), .int .u64 (m : Int)] 133) = W1 at *
          generalize hBB : wo.heap.size = BB at *
          have hag : (Value.slice ua O.length uc).ownBlock ≠ some BB := fun e => by have := HBN.out _ e; omega
          clear hBB
          have T1d : Hid (Three W1.drew BB y n (.int .u64 (m : Int))) := T1.out.gr ((Gr.refl _).drew)
          obtain ⟨t1, t2, t3, t4⟩ := T1.out
          go_region_held3 (fun x => x.cell? ⟨BB, 0, none⟩ = some (.int .i64 (y : Int)) ∧ x.cell? ⟨BB, 1, none⟩ = some (.int .i64 (n : Int)) ∧ x.cell? ⟨BB, 2, none⟩ = some (.int .u64 (m : Int)))
            (first
              | go_keep
              | (go_split_ands
                 refine ⟨?_, ?_, ?_⟩
                 · (rw [hgrow.cell_far _ (by simp; omega) (Ne.symm hag)]; simp [go_sem, *])
                 · (rw [hgrow.cell_far _ (by simp; omega) (Ne.symm hag)]; simp [go_sem, *])
                 · (rw [hgrow.cell_far _ (by simp; omega) (Ne.symm hag)]; simp [go_sem, *])))
            (first
              | (go_at_call 91; refine (fspans_at BB _ _ m _ hm32.out T1d.out).mono ?_; rintro e w2 ⟨sa, sc, rfl, hls, hBl, k1, k2, k3⟩)
              | (refine step_append_lies _ (by rfl) _ _ _ (by rfl) wl.heap.size 56 i0 _ 3 40 Try.underlying28 hi0 hz0 hz1 hz2 rfl (by omega) (.slice ua O.length uc) O.length (flatO O) (by rfl) ((own_gr HA1.out hls.1).alloc _)
                  ⟨w2.heap.size, 0, none⟩ 1 1 [.int .i64 (y : Int), .int .i64 (n : Int), .slice sa (pairs (canon m)).length sc] (by rfl) (by rfl) (new3 _ _ _ _ _) (by simp [Value.oneCell'])
                  (by omega) (by simp only [maxLen]; omega) (by omega) (by simp; omega) (w2.heap.size + 1) (by simp) ?_; intro gg cap w3 hown1 hgrow hat hlt3))
          have HNEW := Lib.hid (HA.out.snoc (b := ((y, n), m)) GA.out hls hown1 hgrow hat)
          have HOM : Hid ((O ++ [(((y, n), m), Value.slice sa (pairs (canon m)).length sc)]).map (·.1) = M.take (O.length + 1)) := by
            have h1 := HP.out
            obtain ⟨hk1, e1⟩ := List.getElem?_eq_some_iff.1 h1
            unfold Hid
            rw [List.map_append, HO.out, List.take_succ_eq_append_getElem hk1, e1]
            rfl
          clear hls hown1 hgrow hat k1 k2 k3
          go_wp2_with fail
          go_roundw
          case rel =>
            (repeat apply Exists.intro)
            refine ⟨?_, rfl⟩
            exact ⟨O.length + 1, _, by omega, by go_num, HOM.out, HNEW.out⟩
          case measure => simp [intOf]; omega
        · have hkM : O.length = M.length := by omega
          rw [hkM] at HO
          have HG := Lib.hid (hg.trans hat.1)
          have HG2 := Lib.hid hg
          rw [List.take_length] at HO
          clear hat hg
          go_wp2_with fail
          go_ret
          exact ⟨_, O, rfl, HG.out, ⟨wl, HG2.out, HA.out⟩, by rw [HO.out]; exact HM.out, by omega, fun t ht => by rw [HO.out]; exact HMt.out t ht⟩
end Go.Proofs.Ythnoafmdecehcaa
