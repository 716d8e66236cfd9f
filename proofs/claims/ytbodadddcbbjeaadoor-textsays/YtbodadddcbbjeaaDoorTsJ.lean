/- The document's own Show: its closure. -/
import Derived.Test.YtbodadddcbbjeaaDoorTsI
import Derived.Deep.RegionHeld3
namespace Rm
open Go Go.RowKit
theorem treeL_pre {l : List Nd} {k i : Nat} (hk : k ≤ l.length) (hi : i < k) : getT (treeL (l.take k)) i = getT (treeL l) i := by
  have := treeL_more (l := l.take k) (i := i) (by rw [List.length_take]; omega) (l.drop k)
  rw [List.take_append_drop] at this
  exact this.symm
theorem tree_at {l : List Nd} {i : Nat} {n : Nd} (hn : l[i]? = some n) : getT (treeL l) i = ndTr n (getT (treeL (l.take i))) := by
  obtain ⟨hlt, e⟩ := List.getElem?_eq_some_iff.1 hn
  have et : l.take (i + 1) = l.take i ++ [n] := by rw [List.take_succ_eq_append_getElem hlt, e]
  have hl : (l.take i).length = i := by rw [List.length_take]; omega
  rw [← treeL_pre (k := i + 1) (by omega) (by omega), et]
  have := treeL_end (l.take i) n
  rwa [hl] at this
theorem tree_not {l : List Nd} {i a : Nat} {b : Int} (hn : l[i]? = some (4, (a : Int), b)) (ha : a < i) (hi : i < l.length) : getT (treeL l) i = .not (getT (treeL l) a) := by
  rw [tree_at hn, ← treeL_pre (k := i) (by omega) ha]; rfl
theorem tree_both {l : List Nd} {i a b : Nat} (hn : l[i]? = some (5, (a : Int), (b : Int))) (ha : a < i) (hb : b < i) (hi : i < l.length) : getT (treeL l) i = .both (getT (treeL l) a) (getT (treeL l) b) := by
  rw [tree_at hn, ← treeL_pre (k := i) (by omega) ha, ← treeL_pre (k := i) (by omega) hb]; rfl
theorem tree_any {l : List Nd} {i a b : Nat} (hn : l[i]? = some (6, (a : Int), (b : Int))) (ha : a < i) (hb : b < i) (hi : i < l.length) : getT (treeL l) i = .any (getT (treeL l) a) (getT (treeL l) b) := by
  rw [tree_at hn, ← treeL_pre (k := i) (by omega) ha, ← treeL_pre (k := i) (by omega) hb]; rfl
end Rm
namespace Go.Proofs.YtbodadddcbbjeaaDoor
open Go.RowKit Rm
set_option linter.unusedVariables false
set_option linter.unusedSimpArgs false
/-- the closure show, and where its variables lie -/
def shF (p1 p2 : Nat) : Value := .func (.func 26) #[] #[.pointer (some ⟨p1, 0, none⟩), .pointer (some ⟨p2, 0, none⟩)]
def ShAt (l : List Nd) (v : Value) (w : World) (p1 p2 : Nat) : Prop := RdN w v l ∧ w.heap[p1]? = some (.cells #[v] 22 (0, 0)) ∧ w.heap[p2]? = some (.cells #[shF p1 p2] 50 (0, 0))
theorem ShAt.gr {l : List Nd} {v : Value} {w w' : World} {p1 p2 : Nat} (h : ShAt l v w p1 p2) (g : Gr w w') : ShAt l v w' p1 p2 := ⟨h.1.gr g, (Below.block g _ (Blk_lt h.2.1)).trans h.2.1, (Below.block g _ (Blk_lt h.2.2)).trans h.2.2⟩
/-- show's contract at a node whose text is q -/
def ShOk (l : List Nd) (v : Value) (p1 p2 i : Nat) (q : List UInt8) : Prop := ∀ w, ShAt l v w p1 p2 → Calls Tryd.prog 26 #[.int .i64 (i : Int), .pointer (some ⟨p1, 0, none⟩), .pointer (some ⟨p2, 0, none⟩)] w fun e w' => e = .returned (.string (str q)) ∧ Gr w w'

set_option maxHeartbeats 1000000 in
set_option maxRecDepth 100000 in
theorem sh_all (l : List Nd) (v : Value) (p1 p2 i : Nat) (hi : i < l.length) (hl30 : l.length ≤ 30) (x y : Int) (hn : l[i]? = some (1, x, y)) : ShOk l v p1 p2 i ([42]) := by
  intro w hw
  have SA := Lib.hid hw
  obtain ⟨hr, hp1, hp2⟩ := hw
  obtain ⟨va, vc, rfl, hvc, hx⟩ := hr
  obtain ⟨b, off, rfl, hb, hcl⟩ := hx (by intro e; rw [e] at hi; simp at hi)
  obtain ⟨c1, c2, c3⟩ := hcl i _ hn
  simp only at c1 c2 c3
  have d1 : w.cell? ⟨p1, 0, none⟩ = some (.slice (some ⟨b, off, none⟩) l.length vc) := by rw [cell_of_row _ _ _ _ _ _ hp1]; rfl
  have d2 : w.cell? ⟨p2, 0, none⟩ = some (shF p1 p2) := by rw [cell_of_row _ _ _ _ _ _ hp2]; rfl
  have l1 := Blk_lt hp1
  have l2 := Blk_lt hp2
  have hi' : (i : Int) < (l.length : Int) := by omega
  have hl30' : (l.length : Int) ≤ 30 := by omega
  clear hcl hx hp1 hp2 hn
  go_enter Tryd.func26, Tryd.ntmps26
  go_wp2_with fail
  go_ret
  exact ⟨rfl, (Gr.refl _).alloc _⟩

set_option maxHeartbeats 1000000 in
set_option maxRecDepth 100000 in
theorem sh_tag (l : List Nd) (v : Value) (p1 p2 i : Nat) (hi : i < l.length) (hl30 : l.length ≤ 30) (a : Nat) (y : Int) (ha : a < 4) (hn : l[i]? = some (2, (a : Int), y)) : ShOk l v p1 p2 i (35 :: dec a) := by
  intro w hw
  have SA := Lib.hid hw
  obtain ⟨hr, hp1, hp2⟩ := hw
  obtain ⟨va, vc, rfl, hvc, hx⟩ := hr
  obtain ⟨b, off, rfl, hb, hcl⟩ := hx (by intro e; rw [e] at hi; simp at hi)
  obtain ⟨c1, c2, c3⟩ := hcl i _ hn
  simp only at c1 c2 c3
  have d1 : w.cell? ⟨p1, 0, none⟩ = some (.slice (some ⟨b, off, none⟩) l.length vc) := by rw [cell_of_row _ _ _ _ _ _ hp1]; rfl
  have d2 : w.cell? ⟨p2, 0, none⟩ = some (shF p1 p2) := by rw [cell_of_row _ _ _ _ _ _ hp2]; rfl
  have l1 := Blk_lt hp1
  have l2 := Blk_lt hp2
  have hi' : (i : Int) < (l.length : Int) := by omega
  have hl30' : (l.length : Int) ≤ 30 := by omega
  clear hcl hx hp1 hp2 hn
  have z1 := dec_le a
  have H := Lib.hid (dec_ref a (by omega))
  generalize dec a = ta at *
  have s1 := strs_sum [35] ta ⟨#[35]⟩ _ rfl rfl (by decide) (by omega) (35 :: ta) rfl
  go_enter Tryd.func26, Tryd.ntmps26
  go_wp2_with (go_at_call 25; refine (H.out _).mono ?_; rintro e w' ⟨rfl, rfl⟩)
  go_ret
  exact ⟨rfl, (Gr.refl _).alloc _⟩

set_option maxHeartbeats 1000000 in
set_option maxRecDepth 100000 in
theorem sh_num (l : List Nd) (v : Value) (p1 p2 i : Nat) (hi : i < l.length) (hl30 : l.length ≤ 30) (a a2 : Nat) (ha : a < a2) (ha2 : a2 ≤ 32) (hn : l[i]? = some (3, (a : Int), (a2 : Int))) : ShOk l v p1 p2 i (91 :: (dec a ++ 44 :: (dec a2 ++ [41]))) := by
  intro w hw
  have SA := Lib.hid hw
  obtain ⟨hr, hp1, hp2⟩ := hw
  obtain ⟨va, vc, rfl, hvc, hx⟩ := hr
  obtain ⟨b, off, rfl, hb, hcl⟩ := hx (by intro e; rw [e] at hi; simp at hi)
  obtain ⟨c1, c2, c3⟩ := hcl i _ hn
  simp only at c1 c2 c3
  have d1 : w.cell? ⟨p1, 0, none⟩ = some (.slice (some ⟨b, off, none⟩) l.length vc) := by rw [cell_of_row _ _ _ _ _ _ hp1]; rfl
  have d2 : w.cell? ⟨p2, 0, none⟩ = some (shF p1 p2) := by rw [cell_of_row _ _ _ _ _ _ hp2]; rfl
  have l1 := Blk_lt hp1
  have l2 := Blk_lt hp2
  have hi' : (i : Int) < (l.length : Int) := by omega
  have hl30' : (l.length : Int) ≤ 30 := by omega
  clear hcl hx hp1 hp2 hn
  have z1 := dec_le a
  have z2 := dec_le a2
  have H := Lib.hid (dec_ref a (by omega))
  have H2 := Lib.hid (dec_ref a2 (by omega))
  generalize dec a = ta at *
  generalize dec a2 = tb at *
  have s1 := strs_sum [91] ta ⟨#[91]⟩ _ rfl rfl (by decide) (by omega) (91 :: ta) rfl
  have s2 := strs_sum (91 :: ta) [44] _ ⟨#[44]⟩ rfl rfl (by simp; omega) (by decide) (91 :: (ta ++ [44])) rfl
  have s3 := strs_sum (91 :: (ta ++ [44])) tb _ _ rfl rfl (by simp; omega) (by omega) (91 :: (ta ++ 44 :: tb)) (by simp)
  have s4 := strs_sum (91 :: (ta ++ 44 :: tb)) [41] _ ⟨#[41]⟩ rfl rfl (by simp; omega) (by decide) (91 :: (ta ++ 44 :: (tb ++ [41]))) (by simp)
  go_enter Tryd.func26, Tryd.ntmps26
  go_wp2_with fail
  go_quiet (first | (go_at_call_of 25 (Value.int .i64 (a : Int)); exact Calls.quiet_of_same (H.out _)) | (go_at_call_of 25 (Value.int .i64 (a2 : Int)); exact Calls.quiet_of_same (H2.out _)))
  go_wp2_with fail
  go_ret
  exact ⟨rfl, ((Gr.refl _).alloc _).drewN _⟩

set_option maxHeartbeats 1000000 in
set_option maxRecDepth 100000 in
theorem sh_not (l : List Nd) (v : Value) (p1 p2 i : Nat) (hi : i < l.length) (hl30 : l.length ≤ 30) (a : Nat) (y : Int) (q : List UInt8) (hq : q.length ≤ 400) (HA : ShOk l v p1 p2 a q) (hn : l[i]? = some (4, (a : Int), y)) : ShOk l v p1 p2 i (33 :: q) := by
  intro w hw
  have SA := Lib.hid hw
  obtain ⟨hr, hp1, hp2⟩ := hw
  obtain ⟨va, vc, rfl, hvc, hx⟩ := hr
  obtain ⟨b, off, rfl, hb, hcl⟩ := hx (by intro e; rw [e] at hi; simp at hi)
  obtain ⟨c1, c2, c3⟩ := hcl i _ hn
  simp only at c1 c2 c3
  have d1 : w.cell? ⟨p1, 0, none⟩ = some (.slice (some ⟨b, off, none⟩) l.length vc) := by rw [cell_of_row _ _ _ _ _ _ hp1]; rfl
  have d2 : w.cell? ⟨p2, 0, none⟩ = some (shF p1 p2) := by rw [cell_of_row _ _ _ _ _ _ hp2]; rfl
  have l1 := Blk_lt hp1
  have l2 := Blk_lt hp2
  have hi' : (i : Int) < (l.length : Int) := by omega
  have hl30' : (l.length : Int) ≤ 30 := by omega
  clear hcl hx hp1 hp2 hn
  have H := Lib.hid HA
  clear HA
  have s1 := strs_sum [33] q ⟨#[33]⟩ _ rfl rfl (by decide) (by omega) (33 :: q) rfl
  have SB := Lib.hid (SA.out.gr ((Gr.refl w).alloc (.cells #[.int .i64 4, .int .i64 (a : Int), .int .i64 y] 30)))
  unfold shF at d2
  go_enter Tryd.func26, Tryd.ntmps26
  go_wp2_with (go_at_call 26; refine (H.out _ SB.out).mono ?_; rintro e w' ⟨rfl, g⟩)
  go_ret
  exact ⟨rfl, ((Gr.refl _).alloc _).trans g⟩

set_option maxHeartbeats 1000000 in
set_option maxRecDepth 100000 in
theorem sh_both (l : List Nd) (v : Value) (p1 p2 i : Nat) (hi : i < l.length) (hl30 : l.length ≤ 30) (a a2 : Nat) (q q2 : List UInt8) (hq : q.length ≤ 400) (hq2 : q2.length ≤ 400) (HA : ShOk l v p1 p2 a q) (HB : ShOk l v p1 p2 a2 q2) (hn : l[i]? = some (5, (a : Int), (a2 : Int))) : ShOk l v p1 p2 i (40 :: (q ++ 38 :: (q2 ++ [41]))) := by
  intro w hw
  have SA := Lib.hid hw
  obtain ⟨hr, hp1, hp2⟩ := hw
  obtain ⟨va, vc, rfl, hvc, hx⟩ := hr
  obtain ⟨b, off, rfl, hb, hcl⟩ := hx (by intro e; rw [e] at hi; simp at hi)
  obtain ⟨c1, c2, c3⟩ := hcl i _ hn
  simp only at c1 c2 c3
  have d1 : w.cell? ⟨p1, 0, none⟩ = some (.slice (some ⟨b, off, none⟩) l.length vc) := by rw [cell_of_row _ _ _ _ _ _ hp1]; rfl
  have d2 : w.cell? ⟨p2, 0, none⟩ = some (shF p1 p2) := by rw [cell_of_row _ _ _ _ _ _ hp2]; rfl
  have l1 := Blk_lt hp1
  have l2 := Blk_lt hp2
  have hi' : (i : Int) < (l.length : Int) := by omega
  have hl30' : (l.length : Int) ≤ 30 := by omega
  clear hcl hx hp1 hp2 hn
  have H := Lib.hid HA
  have H2 := Lib.hid HB
  clear HA HB
  have s1 := strs_sum [40] q ⟨#[40]⟩ _ rfl rfl (by decide) (by omega) (40 :: q) rfl
  have s2 := strs_sum (40 :: q) [38] _ ⟨#[38]⟩ rfl rfl (by simp; omega) (by decide) (40 :: (q ++ [38])) rfl
  have s3 := strs_sum (40 :: (q ++ [38])) q2 _ _ rfl rfl (by simp; omega) (by omega) (40 :: (q ++ 38 :: q2)) (by simp)
  have s4 := strs_sum (40 :: (q ++ 38 :: q2)) [41] _ ⟨#[41]⟩ rfl rfl (by simp; omega) (by decide) (40 :: (q ++ 38 :: (q2 ++ [41]))) (by simp)
  have SB := Lib.hid (SA.out.gr ((Gr.refl w).alloc (.cells #[.int .i64 5, .int .i64 (a : Int), .int .i64 (a2 : Int)] 30)))
  unfold shF at d2
  go_enter Tryd.func26, Tryd.ntmps26
  go_wp2_with fail
  have N1 := Lib.hid (NodeAt.new w 5 a a2 30)
  have G1 := Lib.hid ((Gr.refl w).alloc (.cells #[.int .i64 5, .int .i64 (a : Int), .int .i64 (a2 : Int)] 30))
  have D2 : Hid ((w.alloc (.cells #[.int .i64 5, .int .i64 (a : Int), .int .i64 (a2 : Int)] 30)).cell? ⟨p2, 0, none⟩ = some (.func (.func 26) #[] #[.pointer (some ⟨p1, 0, none⟩), .pointer (some ⟨p2, 0, none⟩)])) := (((Gr.refl w).alloc _).cells.1 p2 _ l2).trans d2
  have hp2 := Nat.lt_of_lt_of_le l2 G1.out.le
  clear c1 c2 c3 d1 d2
  generalize w.alloc (.cells #[.int .i64 5, .int .i64 (a : Int), .int .i64 (a2 : Int)] 30) = w1 at *
  generalize hBB : w.heap.size = BB at *
  obtain ⟨n0, n1, n2, n3⟩ := N1.out
  have e2 := D2.out
  go_region_held3 (fun z => z.cell? ⟨BB, 1, none⟩ = some (.int .i64 (a : Int)) ∧ z.cell? ⟨BB, 2, none⟩ = some (.int .i64 (a2 : Int)) ∧ z.cell? ⟨p2, 0, none⟩ = some (.func (.func 26) #[] #[.pointer (some ⟨p1, 0, none⟩), .pointer (some ⟨p2, 0, none⟩)]))
    (go_keep)
    (first
      | (go_at_call_of 26 (Value.int .i64 (a : Int)); refine (beside (H.out _ (SB.out.gr (Gr.refl _).drew)) (fun e w' h => h.2) (c1 := ⟨BB, 1, none⟩) (c2 := ⟨BB, 2, none⟩) (c3 := ⟨p2, 0, none⟩) (c4 := ⟨p2, 0, none⟩) n0 n0 hp2 hp2 n2 n3 e2 e2).mono ?_; rintro e w3 ⟨⟨rfl, g3⟩, k1, k2, k3, -⟩)
      | (go_at_call_of 26 (Value.int .i64 (a2 : Int)); refine (beside (H2.out _ (SB.out.gr ((Gr.refl _).drew.trans g3))) (fun e w' h => h.2) (c1 := ⟨BB, 1, none⟩) (c2 := ⟨BB, 2, none⟩) (c3 := ⟨p2, 0, none⟩) (c4 := ⟨p2, 0, none⟩) (Nat.lt_of_lt_of_le n0 g3.le) (Nat.lt_of_lt_of_le n0 g3.le) (Nat.lt_of_lt_of_le hp2 g3.le) (Nat.lt_of_lt_of_le hp2 g3.le) k1 k2 k3 k3).mono ?_; rintro e w4 ⟨⟨rfl, g4⟩, m1, m2, m3, -⟩))
  have G4 := Lib.hid ((G1.out.drew.trans g3).trans g4)
  clear g3 g4 k1 k2 k3 m1 m2 m3
  go_wp2_with fail
  go_ret
  exact ⟨rfl, G4.out⟩

set_option maxHeartbeats 1000000 in
set_option maxRecDepth 100000 in
theorem sh_any (l : List Nd) (v : Value) (p1 p2 i : Nat) (hi : i < l.length) (hl30 : l.length ≤ 30) (a a2 : Nat) (q q2 : List UInt8) (hq : q.length ≤ 400) (hq2 : q2.length ≤ 400) (HA : ShOk l v p1 p2 a q) (HB : ShOk l v p1 p2 a2 q2) (hn : l[i]? = some (6, (a : Int), (a2 : Int))) : ShOk l v p1 p2 i (40 :: (q ++ 124 :: (q2 ++ [41]))) := by
  intro w hw
  have SA := Lib.hid hw
  obtain ⟨hr, hp1, hp2⟩ := hw
  obtain ⟨va, vc, rfl, hvc, hx⟩ := hr
  obtain ⟨b, off, rfl, hb, hcl⟩ := hx (by intro e; rw [e] at hi; simp at hi)
  obtain ⟨c1, c2, c3⟩ := hcl i _ hn
  simp only at c1 c2 c3
  have d1 : w.cell? ⟨p1, 0, none⟩ = some (.slice (some ⟨b, off, none⟩) l.length vc) := by rw [cell_of_row _ _ _ _ _ _ hp1]; rfl
  have d2 : w.cell? ⟨p2, 0, none⟩ = some (shF p1 p2) := by rw [cell_of_row _ _ _ _ _ _ hp2]; rfl
  have l1 := Blk_lt hp1
  have l2 := Blk_lt hp2
  have hi' : (i : Int) < (l.length : Int) := by omega
  have hl30' : (l.length : Int) ≤ 30 := by omega
  clear hcl hx hp1 hp2 hn
  have H := Lib.hid HA
  have H2 := Lib.hid HB
  clear HA HB
  have s1 := strs_sum [40] q ⟨#[40]⟩ _ rfl rfl (by decide) (by omega) (40 :: q) rfl
  have s2 := strs_sum (40 :: q) [124] _ ⟨#[124]⟩ rfl rfl (by simp; omega) (by decide) (40 :: (q ++ [124])) rfl
  have s3 := strs_sum (40 :: (q ++ [124])) q2 _ _ rfl rfl (by simp; omega) (by omega) (40 :: (q ++ 124 :: q2)) (by simp)
  have s4 := strs_sum (40 :: (q ++ 124 :: q2)) [41] _ ⟨#[41]⟩ rfl rfl (by simp; omega) (by decide) (40 :: (q ++ 124 :: (q2 ++ [41]))) (by simp)
  have SB := Lib.hid (SA.out.gr ((Gr.refl w).alloc (.cells #[.int .i64 6, .int .i64 (a : Int), .int .i64 (a2 : Int)] 30)))
  unfold shF at d2
  go_enter Tryd.func26, Tryd.ntmps26
  go_wp2_with fail
  have N1 := Lib.hid (NodeAt.new w 6 a a2 30)
  have G1 := Lib.hid ((Gr.refl w).alloc (.cells #[.int .i64 6, .int .i64 (a : Int), .int .i64 (a2 : Int)] 30))
  have D2 : Hid ((w.alloc (.cells #[.int .i64 6, .int .i64 (a : Int), .int .i64 (a2 : Int)] 30)).cell? ⟨p2, 0, none⟩ = some (.func (.func 26) #[] #[.pointer (some ⟨p1, 0, none⟩), .pointer (some ⟨p2, 0, none⟩)])) := (((Gr.refl w).alloc _).cells.1 p2 _ l2).trans d2
  have hp2 := Nat.lt_of_lt_of_le l2 G1.out.le
  clear c1 c2 c3 d1 d2
  generalize w.alloc (.cells #[.int .i64 6, .int .i64 (a : Int), .int .i64 (a2 : Int)] 30) = w1 at *
  generalize hBB : w.heap.size = BB at *
  obtain ⟨n0, n1, n2, n3⟩ := N1.out
  have e2 := D2.out
  go_region_held3 (fun z => z.cell? ⟨BB, 1, none⟩ = some (.int .i64 (a : Int)) ∧ z.cell? ⟨BB, 2, none⟩ = some (.int .i64 (a2 : Int)) ∧ z.cell? ⟨p2, 0, none⟩ = some (.func (.func 26) #[] #[.pointer (some ⟨p1, 0, none⟩), .pointer (some ⟨p2, 0, none⟩)]))
    (go_keep)
    (first
      | (go_at_call_of 26 (Value.int .i64 (a : Int)); refine (beside (H.out _ (SB.out.gr (Gr.refl _).drew)) (fun e w' h => h.2) (c1 := ⟨BB, 1, none⟩) (c2 := ⟨BB, 2, none⟩) (c3 := ⟨p2, 0, none⟩) (c4 := ⟨p2, 0, none⟩) n0 n0 hp2 hp2 n2 n3 e2 e2).mono ?_; rintro e w3 ⟨⟨rfl, g3⟩, k1, k2, k3, -⟩)
      | (go_at_call_of 26 (Value.int .i64 (a2 : Int)); refine (beside (H2.out _ (SB.out.gr ((Gr.refl _).drew.trans g3))) (fun e w' h => h.2) (c1 := ⟨BB, 1, none⟩) (c2 := ⟨BB, 2, none⟩) (c3 := ⟨p2, 0, none⟩) (c4 := ⟨p2, 0, none⟩) (Nat.lt_of_lt_of_le n0 g3.le) (Nat.lt_of_lt_of_le n0 g3.le) (Nat.lt_of_lt_of_le hp2 g3.le) (Nat.lt_of_lt_of_le hp2 g3.le) k1 k2 k3 k3).mono ?_; rintro e w4 ⟨⟨rfl, g4⟩, m1, m2, m3, -⟩))
  have G4 := Lib.hid ((G1.out.drew.trans g3).trans g4)
  clear g3 g4 k1 k2 k3 m1 m2 m3
  go_wp2_with fail
  go_ret
  exact ⟨rfl, G4.out⟩

theorem sh_to {l : List Nd} (hok : OkL l) (v : Value) (p1 p2 : Nat) : ∀ n i, i < n → i < l.length → (text (getT (treeL l) i)).length ≤ 400 → ShOk l v p1 p2 i (text (getT (treeL l) i)) := by
  intro n
  induction n with
  | zero => intro i hi; omega
  | succ n ih =>
    intro i hin hi h4
    obtain ⟨nd, hn⟩ : ∃ p, l[i]? = some p := ⟨_, List.getElem?_eq_getElem hi⟩
    have hl30 := hok.2.1
    have hk := hok.2.2 i nd hn
    cases hk.of with
    | all a b i => rw [tree_at hn]; exact sh_all l v p1 p2 _ hi hl30 a b hn
    | tag a b i h => rw [tree_at hn]; exact sh_tag l v p1 p2 _ hi hl30 a b h hn
    | num a b i h hb => rw [tree_at hn]; exact sh_num l v p1 p2 _ hi hl30 a b h hb hn
    | not a b i h =>
      rw [tree_not hn h hi] at h4 ⊢
      have q : (text (getT (treeL l) a)).length ≤ 400 := by simp [text] at h4; omega
      exact sh_not l v p1 p2 _ hi hl30 a b _ q (ih a (by omega) (by omega) q) hn
    | both a b i h hb =>
      rw [tree_both hn h hb hi] at h4 ⊢
      have q : (text (getT (treeL l) a)).length ≤ 400 := by simp [text] at h4; omega
      have q2 : (text (getT (treeL l) b)).length ≤ 400 := by simp [text] at h4; omega
      exact sh_both l v p1 p2 _ hi hl30 a b _ _ q q2 (ih a (by omega) (by omega) q) (ih b (by omega) (by omega) q2) hn
    | any a b i h hb =>
      rw [tree_any hn h hb hi] at h4 ⊢
      have q : (text (getT (treeL l) a)).length ≤ 400 := by simp [text] at h4; omega
      have q2 : (text (getT (treeL l) b)).length ≤ 400 := by simp [text] at h4; omega
      exact sh_any l v p1 p2 _ hi hl30 a b _ _ q q2 (ih a (by omega) (by omega) q) (ih b (by omega) (by omega) q2) hn
end Go.Proofs.YtbodadddcbbjeaaDoor
