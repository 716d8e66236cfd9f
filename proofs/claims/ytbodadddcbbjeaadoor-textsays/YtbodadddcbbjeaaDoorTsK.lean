/- The document's own Show. -/
import Derived.Test.YtbodadddcbbjeaaDoorTsJ
import Derived.Laws.MakeOwn
import Derived.StillTailTactics
namespace Rm
open Go Go.RowKit
/-- the size of a node's text, cut -/
def szT (l : List Nd) (i : Nat) : Nat := min (text (getT (treeL l) i)).length 401
theorem szT_le (l : List Nd) (i : Nat) : szT l i ≤ 401 := by unfold szT; omega
theorem sz_all {l : List Nd} {i : Nat} {x y : Int} (hn : l[i]? = some (1, x, y)) : szT l i = 1 := by unfold szT; rw [tree_at hn]; rfl
theorem sz_tag {l : List Nd} {i a : Nat} {y : Int} (hn : l[i]? = some (2, (a : Int), y)) (ha : a < 4) : szT l i = 2 := by
  unfold szT; rw [tree_at hn]
  show min (35 :: dec a).length 401 = 2
  rw [dec_one (by omega)]; rfl
theorem sz_num {l : List Nd} {i a b : Nat} (hn : l[i]? = some (3, (a : Int), (b : Int))) : szT l i = 3 + (dec a).length + (dec b).length := by
  have := dec_le a
  have := dec_le b
  unfold szT; rw [tree_at hn]
  show min (91 :: (dec a ++ 44 :: (dec b ++ [41]))).length 401 = _
  simp; omega
theorem sz_not {l : List Nd} {i a : Nat} {b : Int} (hn : l[i]? = some (4, (a : Int), b)) (ha : a < i) (hi : i < l.length) : szT l i = min (1 + szT l a) 401 := by
  unfold szT; rw [tree_not hn ha hi]
  simp only [text, List.length_cons]; omega
theorem sz_both {l : List Nd} {i a b : Nat} (hn : l[i]? = some (5, (a : Int), (b : Int))) (ha : a < i) (hb : b < i) (hi : i < l.length) : szT l i = min (3 + szT l a + szT l b) 401 := by
  unfold szT; rw [tree_both hn ha hb hi]
  simp only [text, List.length_cons, List.length_append, List.length_nil]; omega
theorem sz_any {l : List Nd} {i a b : Nat} (hn : l[i]? = some (6, (a : Int), (b : Int))) (ha : a < i) (hb : b < i) (hi : i < l.length) : szT l i = min (3 + szT l a + szT l b) 401 := by
  unfold szT; rw [tree_any hn ha hb hi]
  simp only [text, List.length_cons, List.length_append, List.length_nil]; omega
end Rm
namespace Go.Proofs.YtbodadddcbbjeaaDoor
open Go.RowKit Rm
set_option linter.unusedVariables false
set_option linter.unusedSimpArgs false
/-- where the sizes stand: B their block, the first k of them are laid -/
def SzAt (w wr : World) (p1 B : Nat) (v : Value) (l : List Nd) (k : Nat) : Prop :=
  Gr w wr ∧ w.heap.size ≤ p1 ∧ w.heap.size ≤ B ∧ p1 ≠ B ∧ wr.heap[p1]? = some (.cells #[v] 22 (0, 0)) ∧ ∃ cs : Array Value, wr.heap[B]? = some (.cells cs 3 (0, 0)) ∧ cs.size = l.length ∧ ∀ j, j < k → cs[j]? = some (.int .i64 (szT l j : Nat))
theorem SzAt.gr {w wr wr' : World} {p1 B : Nat} {v : Value} {l : List Nd} {k : Nat} (h : SzAt w wr p1 B v l k) (g : Gr wr wr') : SzAt w wr' p1 B v l k := by
  obtain ⟨h1, h2, h3, h4, h5, cs, h6, h7, h8⟩ := h
  exact ⟨h1.trans g, h2, h3, h4, (Below.block g _ (Blk_lt h5)).trans h5, cs, (Below.block g _ (Blk_lt h6)).trans h6, h7, h8⟩
theorem SzAt.cell {w wr : World} {p1 B : Nat} {v : Value} {l : List Nd} {k : Nat} (h : SzAt w wr p1 B v l k) {j : Nat} (hj : j < k) : wr.cell? ⟨B, j, none⟩ = some (.int .i64 (szT l j : Nat)) := by
  obtain ⟨h1, h2, h3, h4, h5, cs, h6, h7, h8⟩ := h
  rw [cell_of_row _ _ _ _ _ _ h6]; exact h8 j hj
theorem SzAt.slot {w wr : World} {p1 B : Nat} {v : Value} {l : List Nd} {k : Nat} (h : SzAt w wr p1 B v l k) (hk : k < l.length) : ∃ u, wr.cell? ⟨B, k, none⟩ = some u ∧ wr.frozen? ⟨B, k, none⟩ = false ∧ B < wr.heap.size := by
  obtain ⟨h1, h2, h3, h4, h5, cs, h6, h7, h8⟩ := h
  refine ⟨cs[k]'(by omega), ?_, frozen_of_row _ _ _ _ _ h6, Blk_lt h6⟩
  rw [cell_of_row _ _ _ _ _ _ h6]; exact Array.getElem?_eq_getElem (by omega)
theorem SzAt.var {w wr : World} {p1 B : Nat} {v : Value} {l : List Nd} {k : Nat} (h : SzAt w wr p1 B v l k) : wr.cell? ⟨p1, 0, none⟩ = some v := by
  obtain ⟨h1, h2, h3, h4, h5, cs, h6, h7, h8⟩ := h
  rw [cell_of_row _ _ _ _ _ _ h5]; rfl
theorem SzAt.set {w wr : World} {p1 B : Nat} {v : Value} {l : List Nd} {k : Nat} (h : SzAt w wr p1 B v l k) (hk : k < l.length) (x : Value) (y : Int) (hy : y = (szT l k : Nat)) : SzAt w ((wr.setCell ⟨B, k, none⟩ x).setCell ⟨B, k, none⟩ (.int .i64 y)) p1 B v l (k + 1) := by
  subst hy
  obtain ⟨h1, h2, h3, h4, h5, cs, h6, h7, h8⟩ := h
  have q1 := heap_setCell_same _ _ k _ _ x h6
  have q2 := heap_setCell_same _ _ k _ _ (.int .i64 (szT l k : Nat)) q1
  refine ⟨(h1.setCell (p := ⟨B, k, none⟩) h3 _).setCell (p := ⟨B, k, none⟩) h3 _, h2, h3, h4, ?_, _, q2, by simp [h7], ?_⟩
  · rw [heap_setCell_other _ _ _ _ (by simpa using h4), heap_setCell_other _ _ _ _ (by simpa using h4)]; exact h5
  · intro j hj
    rcases Nat.lt_or_ge j k with c | c
    · rw [Array.getElem?_setIfInBounds_ne (by omega), Array.getElem?_setIfInBounds_ne (by omega)]; exact h8 j c
    · obtain rfl : j = k := by omega
      rw [Array.getElem?_setIfInBounds_self_of_lt (by rw [Array.size_setIfInBounds]; omega)]
/-- what Show answers -/
def rshowE (l : List Nd) : Ending := if 400 < (text (treeOf l)).length then .returned (.tuple #[.string (str []), .bool false]) else .returned (.tuple #[.string (str (text (treeOf l))), .bool true])
theorem intz_info : (Tryd.prog.info? 3).map (fun i => (i.zero, i.size, i.bytes)) = some (some (.int .i64 0), 1, 8) := by kernel_rfl
theorem make_ints (n : Nat) (hn : n ≤ 30) (w : World) : ∃ Z : Array Value, Z.size = n ∧ (Instr.makeSlice 49 (.int .i64 (n : Int)) (.int .i64 (n : Int))).run Tryd.prog w = .ok (.slice (some ⟨w.heap.size, 0, none⟩) n n) (w.alloc (.cells Z 3)) := by
  obtain ⟨i0, hi0, hz0, hz1, hz2⟩ := info_parts intz_info
  have := run_make (P := Tryd.prog) w 49 3 i0 _ Tryd.underlying49 hi0 hz0 .i64 .i64 (n : Int) (n : Int) (by omega) (by omega) (by rw [hz2]; omega) (by omega)
  rw [hz1] at this
  exact ⟨madeCells (Value.int .i64 0).cells ((n : Int).toNat * 1), by rw [size_madeCells]; simp, by simpa using this⟩

set_option maxHeartbeats 8000000 in
set_option maxRecDepth 100000 in
theorem rshow_ok {v : Value} {l : List Nd} {w : World} (hr : RdN w v l) (hok : OkL l) :
    Calls Tryd.prog 10 #[v] w fun e w' => e = rshowE l ∧ Gr w w' := by
  have HT := Lib.hid (sh_to hok v)
  obtain ⟨hl0, hl30, hnd⟩ := hok
  have HN := Lib.hid hnd
  have HR := Lib.hid hr
  obtain ⟨a, cp, rfl, hcp, hcell⟩ := hr
  have HX := Lib.hid hcell
  have hlen' : (l.length : Int) ≤ 30 := by omega
  have hlen0 : (0 : Int) < (l.length : Int) := by omega
  clear hnd hcell
  obtain ⟨Z, hZ, hmk⟩ := make_ints l.length hl30 (w.alloc (.cells #[.slice a l.length cp] 22))
  rw [World.size_alloc] at hmk
  have HZ := Lib.hid hZ
  clear hZ
  have hmf : ∀ (fn : Fn) (first cap : Array Value) (w : World), (Instr.makeFunc fn first cap).run Tryd.prog w = .ok (.func fn first cap) w := fun _ _ _ _ => rfl
  have hsf : ∀ (fn : Fn) (x y : Array Value) (a : Addr) (m : Mode) (w : World), (store a (.func fn x y) m).run Tryd.prog w = stored Tryd.prog w a (.func fn x y) m := fun fn x y a m w => run_store Tryd.prog w a _ m rfl
  go_enter Tryd.func10, Tryd.ntmps10
  go_wp2_with fail
  have S0 : Hid (SzAt w ((w.alloc (.cells #[.slice a l.length cp] 22)).alloc (.cells Z 3)) w.heap.size (w.heap.size + 1) (.slice a l.length cp) l 0) := by
    refine ⟨((Gr.refl w).alloc _).alloc _, Nat.le_refl _, by omega, by omega, ?_, Z, ?_, HZ.out, fun j hj => by omega⟩
    · exact (Below.block ((Gr.refl (w.alloc (.cells #[.slice a l.length cp] 22))).alloc (.cells Z 3)) _ (by simp)).trans (heap_alloc_new _ _)
    · have := heap_alloc_new (w.alloc (.cells #[.slice a l.length cp] 22)) (.cells Z 3)
      rwa [World.size_alloc] at this
  go_loopw [13] (fun i wr => ∃ k : Nat, k ≤ l.length ∧ i = .int .i64 k ∧ SzAt w wr w.heap.size (w.heap.size + 1) (.slice a l.length cp) l k) (fun i _ => l.length - (intOf i).toNat)
  case atStart => exact ⟨0, by omega, rfl, S0.out⟩
  case round =>
    obtain ⟨k, hk, rfl, hsz⟩ := hrel
    by_cases hlt : k < l.length
    · have hlt' : (k : Int) < (l.length : Int) := by omega
      have hk30 : (k : Int) < 30 := by omega
      obtain ⟨n, hnk⟩ : ∃ p, l[k]? = some p := ⟨_, List.getElem?_eq_getElem hlt⟩
      have hkn := HN.out k n hnk
      obtain ⟨b, off, rfl, hb, hcl⟩ := HX.out (by intro e; rw [e] at hlt; simp at hlt)
      obtain ⟨c1, c2, c3⟩ := hcl k _ hnk
      have hg := hsz.1
      rw [← hg.cells.1 b _ hb] at c1 c2 c3
      obtain ⟨su, e1, e2, e3⟩ := hsz.slot hlt
      have hbr : b < wr.heap.size := Nat.lt_of_lt_of_le hb hg.le
      clear hcl hg
      cases hkn.of with
      | all x y i =>
        have HSZ := Lib.hid (sz_all hnk)
        clear hnk hkn
        go_wp2_with fail
        go_roundw
        case rel => exact ⟨k + 1, by omega, by go_num, (hsz.set hlt _ _ (by rw [HSZ.out]; first | rfl | (simp; done) | (simp; omega) | omega)).gr ((Gr.refl _).alloc _)⟩
        case measure => simp [intOf]; omega
      | tag x y i hx4 =>
        have HSZ := Lib.hid (sz_tag hnk hx4)
        clear hnk hkn
        go_wp2_with fail
        go_roundw
        case rel => exact ⟨k + 1, by omega, by go_num, (hsz.set hlt _ _ (by rw [HSZ.out]; first | rfl | (simp; done) | (simp; omega) | omega)).gr ((Gr.refl _).alloc _)⟩
        case measure => simp [intOf]; omega
      | num x y i hxy hy =>
        have HSZ := Lib.hid (sz_num hnk)
        have z1 := dec_le x
        have z2 := dec_le y
        have H1 := Lib.hid (dec_ref x (by omega))
        have H2 := Lib.hid (dec_ref y (by omega))
        have y1 := str_size (dec x)
        have y2 := str_size (dec y)
        have z1i : ((dec x).length : Int) ≤ 2 := by omega
        have z2i : ((dec y).length : Int) ≤ 2 := by omega
        have hmn : ¬ (401 : Int) < 3 + ((dec x).length : Int) + ((dec y).length : Int) := by omega
        generalize dec x = tx at *
        generalize dec y = ty at *
        clear hnk hkn
        go_wp2_with fail
        have N1 := Lib.hid (NodeAt.new wr 3 x y 30)
        have S5 := Lib.hid (hsz.gr ((Gr.refl wr).alloc (.cells #[.int .i64 3, .int .i64 (x : Int), .int .i64 (y : Int)] 30)))
        clear c1 c2 c3 e1 e2 e3
        generalize wr.alloc (.cells #[.int .i64 3, .int .i64 (x : Int), .int .i64 (y : Int)] 30) = w5 at *
        obtain ⟨n0, n1, n2, n3⟩ := N1.out
        obtain ⟨sv, e1, e2, e3⟩ := S5.out.slot hlt
        go_still_tail 13, (by kernel_rfl)
        still_call (H1.out _)
        repeat still_step
        still_call (H2.out _)
        repeat still_step
        refine wpStill_nil ?_
        change wpList _ _ _ _ _ w5.drew
        go_wp2_with fail
        go_roundw
        case rel => exact ⟨k + 1, by omega, by go_num, (S5.out.set hlt _ _ (by rw [HSZ.out]; first | rfl | (simp; done) | (simp; omega) | omega)).gr (Gr.refl _).drew⟩
        case measure => simp [intOf]; omega
      | not x y i hxi =>
        have d1 := hsz.cell hxi
        have HSZ := Lib.hid (sz_not hnk hxi hlt)
        have hs1 := szT_le l x
        have hx' : (x : Int) < (l.length : Int) := by omega
        generalize szT l x = sx at *
        have hs1i : (sx : Int) ≤ 401 := by omega
        clear hnk hkn
        by_cases hm : sx = 401
        · have hmn : (401 : Int) < 1 + (sx : Int) := by omega
          go_wp2_with fail
          go_roundw
          case rel => exact ⟨k + 1, by omega, by go_num, (hsz.set hlt _ _ (by rw [HSZ.out]; first | rfl | (simp; done) | (simp; omega) | omega)).gr ((Gr.refl _).alloc _)⟩
          case measure => simp [intOf]; omega
        · have hmn : ¬ (401 : Int) < 1 + (sx : Int) := by omega
          go_wp2_with fail
          go_roundw
          case rel => exact ⟨k + 1, by omega, by go_num, (hsz.set hlt _ _ (by rw [HSZ.out]; first | rfl | (simp; done) | (simp; omega) | omega)).gr ((Gr.refl _).alloc _)⟩
          case measure => simp [intOf]; omega
      | both x y i hxi hyi =>
        have HSZ := Lib.hid (sz_both hnk hxi hyi hlt)
        have hs1 := szT_le l x
        have hs2 := szT_le l y
        have hx' : (x : Int) < (l.length : Int) := by omega
        have hy' : (y : Int) < (l.length : Int) := by omega
        clear hnk hkn
        go_wp2_with fail
        have N1 := Lib.hid (NodeAt.new wr 5 x y 30)
        have S5 := Lib.hid (hsz.gr ((Gr.refl wr).alloc (.cells #[.int .i64 5, .int .i64 (x : Int), .int .i64 (y : Int)] 30)))
        clear c1 c2 c3 e1 e2 e3
        generalize wr.alloc (.cells #[.int .i64 5, .int .i64 (x : Int), .int .i64 (y : Int)] 30) = w5 at *
        obtain ⟨n0, n1, n2, n3⟩ := N1.out
        obtain ⟨sv, e1, e2, e3⟩ := S5.out.slot hlt
        have d1 := S5.out.cell hxi
        have d2 := S5.out.cell hyi
        generalize szT l x = sx at *
        generalize szT l y = sy at *
        have hs1i : (sx : Int) ≤ 401 := by omega
        have hs2i : (sy : Int) ≤ 401 := by omega
        by_cases hm : 401 < 3 + sx + sy
        · have hmn : (401 : Int) < 3 + (sx : Int) + (sy : Int) := by omega
          go_still_tail 15, (by kernel_rfl)
          change wpList _ _ _ _ _ w5.drew
          go_wp2_with fail
          go_roundw
          case rel => exact ⟨k + 1, by omega, by go_num, (S5.out.set hlt _ _ (by rw [HSZ.out]; first | rfl | (simp; done) | (simp; omega) | omega)).gr (Gr.refl _).drew⟩
          case measure => simp [intOf]; omega
        · have hmn : ¬ (401 : Int) < 3 + (sx : Int) + (sy : Int) := by omega
          go_still_tail 15, (by kernel_rfl)
          change wpList _ _ _ _ _ w5.drew
          go_wp2_with fail
          go_roundw
          case rel => exact ⟨k + 1, by omega, by go_num, (S5.out.set hlt _ _ (by rw [HSZ.out]; first | rfl | (simp; done) | (simp; omega) | omega)).gr (Gr.refl _).drew⟩
          case measure => simp [intOf]; omega
      | any x y i hxi hyi =>
        have HSZ := Lib.hid (sz_any hnk hxi hyi hlt)
        have hs1 := szT_le l x
        have hs2 := szT_le l y
        have hx' : (x : Int) < (l.length : Int) := by omega
        have hy' : (y : Int) < (l.length : Int) := by omega
        clear hnk hkn
        go_wp2_with fail
        have N1 := Lib.hid (NodeAt.new wr 6 x y 30)
        have S5 := Lib.hid (hsz.gr ((Gr.refl wr).alloc (.cells #[.int .i64 6, .int .i64 (x : Int), .int .i64 (y : Int)] 30)))
        clear c1 c2 c3 e1 e2 e3
        generalize wr.alloc (.cells #[.int .i64 6, .int .i64 (x : Int), .int .i64 (y : Int)] 30) = w5 at *
        obtain ⟨n0, n1, n2, n3⟩ := N1.out
        obtain ⟨sv, e1, e2, e3⟩ := S5.out.slot hlt
        have d1 := S5.out.cell hxi
        have d2 := S5.out.cell hyi
        generalize szT l x = sx at *
        generalize szT l y = sy at *
        have hs1i : (sx : Int) ≤ 401 := by omega
        have hs2i : (sy : Int) ≤ 401 := by omega
        by_cases hm : 401 < 3 + sx + sy
        · have hmn : (401 : Int) < 3 + (sx : Int) + (sy : Int) := by omega
          go_still_tail 15, (by kernel_rfl)
          change wpList _ _ _ _ _ w5.drew
          go_wp2_with fail
          go_roundw
          case rel => exact ⟨k + 1, by omega, by go_num, (S5.out.set hlt _ _ (by rw [HSZ.out]; first | rfl | (simp; done) | (simp; omega) | omega)).gr (Gr.refl _).drew⟩
          case measure => simp [intOf]; omega
        · have hmn : ¬ (401 : Int) < 3 + (sx : Int) + (sy : Int) := by omega
          go_still_tail 15, (by kernel_rfl)
          change wpList _ _ _ _ _ w5.drew
          go_wp2_with fail
          go_roundw
          case rel => exact ⟨k + 1, by omega, by go_num, (S5.out.set hlt _ _ (by rw [HSZ.out]; first | rfl | (simp; done) | (simp; omega) | omega)).gr (Gr.refl _).drew⟩
          case measure => simp [intOf]; omega
    · obtain rfl : k = l.length := by omega
      have d0 := hsz.var
      have d1 := hsz.cell (j := l.length - 1) (by omega)
      have hsub : (l.length : Int) - 1 = ((l.length - 1 : Nat) : Int) := by omega
      have hlt1 : ((l.length - 1 : Nat) : Int) < (l.length : Int) := by omega
      have hp1l : w.heap.size < wr.heap.size := Blk_lt hsz.2.2.2.2.1
      have hg := hsz.1
      have HP1 := Lib.hid hsz.2.2.2.2.1
      have hszl : szT l (l.length - 1) = min (text (treeOf l)).length 401 := rfl
      have HTX := Lib.hid (fun p1 p2 => HT.out p1 p2 l.length (l.length - 1) (by omega) (by omega))
      have HRW := Lib.hid (HR.out.gr hg)
      clear HT HX S0
      rcases Nat.lt_or_ge 400 (text (treeOf l)).length with c | c
      · have HIF : Hid (rshowE l = .returned (.tuple #[.string (str []), .bool false])) := if_pos c
        have hbig : (400 : Int) < (szT l (l.length - 1) : Nat) := by omega
        generalize szT l (l.length - 1) = sz at *
        clear HTX hszl hsz
        generalize l.length - 1 = m at *
        clear c
        go_wp2_with fail
        go_ret2
        exact ⟨by rw [HIF.out]; rfl, hg⟩
      · have HIF : Hid (rshowE l = .returned (.tuple #[.string (str (text (treeOf l))), .bool true])) := if_neg (by omega)
        have hbig : ¬ (400 : Int) < (szT l (l.length - 1) : Nat) := by omega
        have HC : Hid (∀ p1 p2, ShOk l (.slice a l.length cp) p1 p2 (l.length - 1) (text (treeOf l))) := fun p1 p2 => HTX.out p1 p2 c
        generalize szT l (l.length - 1) = sz at *
        clear HTX hszl hsz
        generalize l.length - 1 = m at *
        generalize text (treeOf l) = tx at *
        go_wp2_with fail
        refine (HC.out w.heap.size wr.heap.size _ ⟨HRW.out.gr ((Gr.refl wr).alloc _), (Below.block ((Gr.refl wr).alloc _) _ hp1l).trans HP1.out, heap_alloc_new _ _⟩).mono ?_
        rintro e w9 ⟨rfl, g9⟩
        go_wp2_with fail
        go_ret2
        exact ⟨by rw [HIF.out]; rfl, (hg.alloc _).trans g9⟩
end Go.Proofs.YtbodadddcbbjeaaDoor
