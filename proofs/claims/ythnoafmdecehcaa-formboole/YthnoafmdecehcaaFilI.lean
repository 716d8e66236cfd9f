/- The contract of package filter's merge. -/
import Derived.Test.YthnoafmdecehcaaFilH
namespace Rm
open Go Go.RowKit
theorem pow16 : ∀ i < 4, 2 ^ i < 16 := by decide
theorem OkF.snoc {M : List Bx} {b : Bx} (h : OkF M) (hb : OkB b) : OkF (M ++ [b]) := by
  intro c hc
  rcases List.mem_append.1 hc with hc | hc
  · exact h c hc
  · obtain rfl : c = b := by simpa using hc
    exact hb
end Rm
namespace Go.Proofs.Ythnoafmdecehcaa
open Go.RowKit Rm
set_option linter.unusedVariables false

/-- where merge's loop stands: k blocks are in M -/
def MergAt (l : List Bx) (k : Nat) (M : List Bx) : Prop := OkF M ∧ M.length ≤ k ∧ ∀ t, t < 16 → tabF M t = tabF (l.take k) t
theorem own_gr {w w' : World} {base : Nat} {e : TypeId} {size : Nat} {v : Value} {n : Nat} {xs : List Value} (h : w.ownsRow base e size v n xs) (g : Gr w w') : w'.ownsRow base e size v n xs := by
  refine h.kept (row := none) ⟨g.os, g.tape, g.output, g.size, fun k hk _ => Below.block g k hk⟩ ?_
  cases v.ownBlock with
  | none => exact .inl rfl
  | some k => exact .inr (by simp)
theorem mergAt_start (l : List Bx) : MergAt l 0 [] := ⟨(fun b hb => by cases hb), by simp, fun t _ => by simp⟩
theorem MergAt.set {l M : List Bx} {k g j : Nat} {b : Bx} (h : MergAt l k M) (hk : l[k]? = some b) (hj : M[j]? = some (twin g b)) (hb : OkB b) (ht : OkF (M.set j (both g b)) ∧ ∀ t, t < 16 → tabF (M.set j (both g b)) t = addB t (tabF M t) b) : MergAt l (k + 1) (M.set j (both g b)) :=
  ⟨ht.1, by rw [List.length_set]; have := h.2.1; omega, fun t h16 => by rw [ht.2 t h16, h.2.2 t h16, tabF_take hk]⟩
theorem MergAt.snoc {l M : List Bx} {k : Nat} {b : Bx} (h : MergAt l k M) (hk : l[k]? = some b) (hb : OkB b) : MergAt l (k + 1) (M ++ [b]) :=
  ⟨h.1.snoc hb, by have := h.2.1; simp; omega, fun t h16 => by rw [tabF_snoc, h.2.2 t h16, tabF_take hk]⟩


set_option maxHeartbeats 2000000 in
set_option maxRecDepth 100000 in
theorem merge_any (v : Value) (l : List Bx) (i : Nat) (w : World) (hr : Rd3 w v l) (hl : l.length ≤ 16) (hok : OkF l) (hi : i < 4) :
    Calls Try.prog 90 #[v, .int .i64 ((2 ^ i : Nat) : Int)] w fun e w' => ∃ u M, e = .returned u ∧ BlkAt w w' M u ∧ MergAt l l.length M := by
  obtain ⟨i0, hi0, hz0, hz1, hz2⟩ := info_parts block_info
  obtain ⟨a, cp, rfl, hcp, hx⟩ := hr
  have HX := Lib.hid hx
  have HK := Lib.hid hok
  have hlen' : (l.length : Int) ≤ 16 := by omega
  have hg16 := pow16 i hi
  have HTS := Lib.hid (fun (M : List Bx) (b : Bx) (j : Nat) => tab_set (M := M) (b := b) (j := j) hi)
  have HTW := Lib.hid (fun (b : Bx) => show twin (2 ^ i) b = ((b.1.1 ^^^ 2 ^ i, b.1.2 ^^^ 2 ^ i), b.2) from rfl)
  have HTB := Lib.hid (fun (b : Bx) => show both (2 ^ i) b = ((b.1.1 &&& (15 - 2 ^ i), b.1.2 &&& (15 - 2 ^ i)), b.2) from rfl)
  clear hx hok
  generalize 2 ^ i = g at *
  clear hi
  have hgi : (g : Int) < 16 := by omega
  go_enter Try.func90, Try.ntmps90
  go_wp2
  go_loopw [5, 12] (fun u kk wr => ∃ (k : Nat) (M : List Bx), k ≤ l.length ∧ kk = .int .i64 k ∧ BlkAt w wr M u ∧ MergAt l k M) (fun _ kk _ => l.length - (intOf kk).toNat)
  case atStart => exact ⟨0, [], by omega, rfl, ⟨Gr.refl _, World.ownsRow_nil _ _ _ _⟩, mergAt_start l⟩
  case round =>
    obtain ⟨k, M, hk, rfl, ⟨hg, hown⟩, hMA⟩ := hrel
    generalize wr = wo at *
    have hMl := hMA.2.1
    have HMA := Lib.hid hMA
    have HO := Lib.hid hown
    clear hMA
    by_cases hlt : k < l.length
    · obtain ⟨⟨⟨y, n⟩, m⟩, hp⟩ : ∃ p, l[k]? = some p := ⟨_, List.getElem?_eq_getElem hlt⟩
      obtain ⟨b, off, rfl, hb, hcell⟩ := HX.out (by intro e; rw [e] at hlt; simp at hlt)
      obtain ⟨c1, c2, c3⟩ := hcell k _ hp
      rw [← hg.cells.1 b _ hb] at c1 c2 c3
      simp only at c1 c2 c3
      have hbr : b < wo.heap.size := Nat.lt_of_lt_of_le hb hg.le
      have hk16 : (k : Int) < 16 := by omega
      have hB : OkB ((y, n), m) := HK.out _ (List.mem_of_getElem? hp)
      have HB := Lib.hid hB
      have HP := Lib.hid hp
      have x1 := xor16 y hB.1.1 g hg16
      have x2 := xor16 n hB.1.2.1 g hg16
      have a1 := andNot16' y hB.1.1 g hg16
      have a2 := andNot16' n hB.1.2.1 g hg16
      obtain ⟨ua, uc, rfl, huc⟩ := own_form hown
      clear hcell hp hB hown
      go_wp2_with fail
      have R1 := Lib.hid ((Rd3.own HO.out).gr (((Gr.refl wo).alloc (.cells #[.int .i64 (y : Int), .int .i64 (n : Int), .int .u64 (m : Int)] 133)).alloc (.cells #[.int .i64 ((y ^^^ g : Nat) : Int), .int .i64 ((n ^^^ g : Nat) : Int), .int .u64 (m : Int)] 133)))
      refine (index_any _ M (y ^^^ g) (n ^^^ g) m _ R1.out (by omega)).mono ?_
      rintro e w1 ⟨hcase, g1⟩
      have T1 := Lib.hid ((Three.new wo y n (.int .u64 (m : Int)) 133).gr (((Gr.refl _).alloc (.cells #[.int .i64 ((y ^^^ g : Nat) : Int), .int .i64 ((n ^^^ g : Nat) : Int), .int .u64 (m : Int)] 133)).trans g1))
      have G1 := Lib.hid (((hg.alloc (.cells #[.int .i64 (y : Int), .int .i64 (n : Int), .int .u64 (m : Int)] 133)).alloc (.cells #[.int .i64 ((y ^^^ g : Nat) : Int), .int .i64 ((n ^^^ g : Nat) : Int), .int .u64 (m : Int)] 133)).trans g1)
      have O1 := Lib.hid (own_gr HO.out (((Gr.refl wo).alloc (.cells #[.int .i64 (y : Int), .int .i64 (n : Int), .int .u64 (m : Int)] 133)).alloc (.cells #[.int .i64 ((y ^^^ g : Nat) : Int), .int .i64 ((n ^^^ g : Nat) : Int), .int .u64 (m : Int)] 133)))
      have O2 := Lib.hid (own_gr O1.out g1)
      clear O1 R1 HO g1 c1 c2 c3 x1 x2
      have hws := hg.le
      generalize wo.heap.size = BB at *
      obtain ⟨t1, t2, t3, t4⟩ := T1.out
      have hMl16 : (M.length : Int) < 16 := by omega
      rcases hcase with ⟨j, hj, rfl⟩ | ⟨hnot, rfl⟩
      · have hjl : j < M.length := (List.getElem?_eq_some_iff.1 hj).1
        have hjl' : (j : Int) < (M.length : Int) := by omega
        obtain ⟨g0, cap0, e0, hb0, hl0, hc0⟩ := own_pos O2.out (by omega)
        obtain ⟨rfl, -, rfl⟩ : ua = some ⟨g0, 0, none⟩ ∧ M.length = M.length ∧ uc = cap0 := by simpa using e0
        have f0 := flatK_at M j _ hj
        have q1 : w1.cell? ⟨g0, j * 3, none⟩ = some (.int .i64 ((y ^^^ g : Nat) : Int)) := by rw [O2.out.cellAt _ (by omega)]; exact f0.1
        have q2 : w1.cell? ⟨g0, j * 3 + 1, none⟩ = some (.int .i64 ((n ^^^ g : Nat) : Int)) := by rw [O2.out.cellAt _ (by omega)]; exact f0.2.1
        have z1 := O2.out.frozenAt (j * 3)
        have z2 := O2.out.frozenAt (j * 3 + 1)
        have HJ : Hid (M[j]? = some (twin g ((y, n), m))) := by rw [HTW.out]; exact hj
        have HFS := Lib.hid (flatK_set M j _ ((y &&& (15 - g), n &&& (15 - g)), m) hj rfl)
        have HNEW := Lib.hid (HMA.out.set HP.out HJ.out HB.out (HTS.out M ((y, n), m) j HMA.out.1 HB.out HJ.out))
        have HLS : Hid ((M.set j (both g ((y, n), m))).length = M.length) := List.length_set
        have HBB := HTB.out ((y, n), m)
        simp only at HBB
        have HBB2 := Lib.hid HBB
        clear hj f0 e0 HBB
        go_wp2_with fail
        go_roundw
        case rel =>
          refine ⟨k + 1, M.set j (both g ((y, n), m)), by omega, by go_num, ⟨(G1.out.setCell hb0 _).setCell hb0 _, ?_⟩, HNEW.out⟩
          rw [HLS.out, HBB2.out, ← HFS.out]
          exact ((O2.out.stored _ _).1.stored _ _).1
        case measure => simp [intOf]; omega
      · clear hnot
        have HNEW := Lib.hid (HMA.out.snoc HP.out HB.out)
        have HFA : Hid (flatK (M ++ [((y, n), m)]) = flatK M ++ [.int .i64 (y : Int), .int .i64 (n : Int), .int .u64 (m : Int)] ∧ (M ++ [((y, n), m)]).length = M.length + 1) := ⟨by rw [flatK_app]; rfl, by simp⟩
        go_wp2_with (at_builtin; refine wpList_append_own _ rfl (.tmp 50) (.tmp 52) 129 rfl w.heap.size 133 i0 _ 3 24 Try.underlying129 hi0 hz0 hz1 hz2 rfl (by omega) _ _ _ rfl (O2.out.alloc _) ⟨w1.heap.size, 0, none⟩ 1 1 [.int .i64 (y : Int), .int .i64 (n : Int), .int .u64 (m : Int)] rfl rfl (new3 _ _ _ _ _) (one3 _ _ _) (by simp only [maxLen]; omega) (by omega) (by have := G1.out.le; simp; omega) ?_; intro v1 w2 hown hg1 _)
        go_roundw
        case rel => exact ⟨k + 1, M ++ [((y, n), m)], by omega, by go_num, ⟨(G1.out.alloc _).grown hg1 (fun k hk => (O2.out.lt k hk).1), by rw [HFA.out.1, HFA.out.2]; exact hown⟩, HNEW.out⟩
        case measure => simp [intOf]; omega
    · obtain rfl : k = l.length := by omega
      go_wp2_with fail
      go_ret
      exact ⟨_, M, rfl, ⟨hg, HO.out⟩, HMA.out⟩
end Go.Proofs.Ythnoafmdecehcaa
