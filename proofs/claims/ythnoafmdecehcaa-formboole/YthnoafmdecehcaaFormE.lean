/- The contract of package formula's filterOf. -/
import Derived.Test.YthnoafmdecehcaaFormD
namespace Go.Proofs.Ythnoafmdecehcaa
open Go.RowKit Rm
set_option linter.unusedVariables false

theorem okT_of {base n : Nat} {w : World} {v : Value} {T : Nat → Nat} (h : FO base n w v T) : OkT T := fun t ht => h.fs.lt t ht

/-- the node in its block, and the filters of two earlier ones, stand as they were -/
def NodeAt (w : World) (B : Nat) (k a b : Int) : Prop := B < w.heap.size ∧ w.cell? ⟨B, 0, none⟩ = some (.int .i64 k) ∧ w.cell? ⟨B, 1, none⟩ = some (.int .i64 a) ∧ w.cell? ⟨B, 2, none⟩ = some (.int .i64 b)
theorem NodeAt.gr {w w' : World} {B : Nat} {k a b : Int} (h : NodeAt w B k a b) (g : Gr w w') : NodeAt w' B k a b :=
  ⟨Nat.lt_of_lt_of_le h.1 g.le, (g.cells.1 B 0 h.1).trans h.2.1, (g.cells.1 B 1 h.1).trans h.2.2.1, (g.cells.1 B 2 h.1).trans h.2.2.2⟩
theorem NodeAt.new (w : World) (k a b : Int) (t : TypeId) : NodeAt (w.alloc (.cells #[.int .i64 k, .int .i64 a, .int .i64 b] t)) w.heap.size k a b := by
  refine ⟨by simp, ?_, ?_, ?_⟩ <;> simp [go_sem]

set_option maxHeartbeats 1000000 in
set_option maxRecDepth 100000 in
theorem filterOf_ok (k a b : Int) (u : Value) (L : List Value) (v : Nat → Pt) (w : World) (hn : OkN (k, a, b) L.length) (hu : RdV w u L) (hf : ∀ i x, L[i]? = some x → ∃ base, FP base w x (v i)) (hl : L.length ≤ 30) :
    Calls Try.prog 47 #[.agg #[.int .i64 k, .int .i64 a, .int .i64 b], u] w fun e w' => ∃ r, e = .returned r ∧ FP w.heap.size w' r (ndP (k, a, b) v) ∧ Gr w w' := by
  obtain ⟨ua, uc, rfl, huc, hcell⟩ := hu
  cases hn.of with
  | all a b i =>
    go_enter Try.func47, Try.ntmps47
    go_wp2_with fail
    refine (fevery_own _).mono ?_
    rintro e w1 ⟨r, rfl, hr, g1⟩
    have HR := Lib.hid ((hr.base (base' := w.heap.size) (by simp)).le (m := 16) (by omega))
    clear hr
    go_wp2_with fail
    go_ret
    exact ⟨r, rfl, ⟨_, HR.out, rep_all _ _ _⟩, ((Gr.refl _).alloc _).trans g1⟩
  | tag a b i h =>
    have HV := Lib.hid (fun wx => box_own (2 ^ a) 0 0 32 4294967295 wx canonFull (by decide) (vld_tag a h))
    have HR := Lib.hid (rep_tag v b h)
    have hp : wrap64 (2 ^ a) = ((2 ^ a : Nat) : Int) := by
      have h1 := pow16 a h
      have h2 : ((2 ^ a : Nat) : Int) = (2 : Int) ^ a := by simp
      rw [← h2]
      generalize 2 ^ a = x at *
      unfold wrap64
      omega
    clear hcell hf
    go_enter Try.func47, Try.ntmps47
    go_wp2_with fail
    rw [hp]
    refine (HV.out _).mono ?_
    rintro e w1 ⟨r, rfl, hr, g1⟩
    have H1 := Lib.hid ((hr.base (base' := w.heap.size) (by simp)).le (m := 16) (by omega))
    clear hr hp
    go_wp2_with fail
    go_ret
    exact ⟨r, rfl, ⟨_, H1.out, HR.out⟩, ((Gr.refl _).alloc _).trans g1⟩
  | num a b i h hb =>
    have HV := Lib.hid (fun wx => box_own 0 0 a b (maskL [(a, b)]) wx (canon_maskL (vf_one h hb)) (maskL_lt (vf_one h hb).le) vld00)
    have HR := Lib.hid (rep_num v h hb)
    clear hcell hf
    go_enter Try.func47, Try.ntmps47
    go_wp2_with fail
    refine (HV.out _).mono ?_
    rintro e w1 ⟨r, rfl, hr, g1⟩
    have H1 := Lib.hid ((hr.base (base' := w.heap.size) (by simp)).le (m := 16) (by omega))
    clear hr
    go_wp2_with fail
    go_ret
    exact ⟨r, rfl, ⟨_, H1.out, HR.out⟩, ((Gr.refl _).alloc _).trans g1⟩
  | not a b i h =>
    obtain ⟨x, hx⟩ : ∃ x, L[a]? = some x := ⟨_, List.getElem?_eq_getElem h⟩
    obtain ⟨bs, T, hT, hrep⟩ := hf a x hx
    obtain ⟨vb, off, rfl, hvb, hc⟩ := hcell (by intro e; rw [e] at h; simp at h)
    have c1 := hc a x hx
    have HT := Lib.hid hT
    have HR := Lib.hid (rep_not b (okT_of hT) hrep)
    have h' : (a : Int) < (L.length : Int) := by omega
    have hL : (L.length : Int) ≤ 30 := by omega
    clear hc hf hcell hx hT hrep
    go_enter Try.func47, Try.ntmps47
    go_wp2_with fail
    have N1 := Lib.hid (NodeAt.new w 4 a b 46)
    have HT1 := Lib.hid (HT.out.gr ((Gr.refl w).alloc (.cells #[.int .i64 4, .int .i64 (a : Int), .int .i64 b] 46)))
    have C1 : Hid ((w.alloc (.cells #[.int .i64 4, .int .i64 (a : Int), .int .i64 b] 46)).cell? ⟨vb, off + a, none⟩ = some x) := (((Gr.refl w).alloc _).cells.1 vb _ hvb).trans c1
    have G1 := Lib.hid ((Gr.refl w).alloc (.cells #[.int .i64 4, .int .i64 (a : Int), .int .i64 b] 46))
    have hvb1 := Nat.lt_of_lt_of_le hvb G1.out.le
    clear HT c1
    generalize w.alloc (.cells #[.int .i64 4, .int .i64 (a : Int), .int .i64 b] 46) = w1 at *
    have hws : Hid (w.heap.size ≤ w1.heap.size) := G1.out.le
    generalize hBB : w.heap.size = BB at *
    obtain ⟨n0, n1, n2, n3⟩ := N1.out
    have d1 := C1.out
    go_region_held3 (fun y => y.cell? ⟨BB, 1, none⟩ = some (.int .i64 (a : Int)) ∧ y.cell? ⟨vb, off + a, none⟩ = some x)
      (go_keep)
      (first
        | (go_at_call 33; refine (beside (fevery_own w1.drew) (fun e w' ⟨_, _, _, g⟩ => g) (c1 := ⟨BB, 1, none⟩) (c2 := ⟨vb, off + a, none⟩) (c3 := ⟨BB, 1, none⟩) (c4 := ⟨BB, 1, none⟩) n0 hvb1 n0 n0 n2 d1 n2 n2).mono ?_; rintro e w2 ⟨⟨r1, rfl, hr1, g2⟩, k1, k2, -, -⟩)
        | (go_at_call 32; refine (beside (fless_own (hr1.fs.le (by omega)) (((HT1.out.fs.le (by omega)).gr ((Gr.refl _).drew.trans g2)))) (fun e w' ⟨_, _, _, g⟩ => g) (c1 := ⟨BB, 1, none⟩) (c2 := ⟨vb, off + a, none⟩) (c3 := ⟨BB, 1, none⟩) (c4 := ⟨BB, 1, none⟩) (Nat.lt_of_lt_of_le n0 g2.le) (Nat.lt_of_lt_of_le hvb1 g2.le) (Nat.lt_of_lt_of_le n0 g2.le) (Nat.lt_of_lt_of_le n0 g2.le) k1 k2 k1 k1).mono ?_; rintro e w3 ⟨⟨r2, rfl, hr2, g3⟩, k3, k4, -, -⟩))
    have H3 := Lib.hid (hr2.base (base' := BB) (by have := hws.out; have := g2.le; simp at this; omega))
    have G3 := Lib.hid ((G1.out.drew.trans g2).trans g3)
    clear hr1 hr2 g2 g3 k1 k2 k3 k4
    go_wp2_with fail
    go_ret
    exact ⟨_, rfl, ⟨_, hBB ▸ H3.out, HR.out⟩, G3.out⟩
  | both a b i h hb =>
    obtain ⟨x, hx⟩ : ∃ x, L[a]? = some x := ⟨_, List.getElem?_eq_getElem h⟩
    obtain ⟨y, hy⟩ : ∃ y, L[b]? = some y := ⟨_, List.getElem?_eq_getElem hb⟩
    obtain ⟨bs, T, hT, hrep⟩ := hf a x hx
    obtain ⟨bs', U, hU, hrep'⟩ := hf b y hy
    obtain ⟨vb, off, rfl, hvb, hc⟩ := hcell (by intro e; rw [e] at h; simp at h)
    have c1 := hc a x hx
    have c2 := hc b y hy
    have HT := Lib.hid hT
    have HU := Lib.hid hU
    have HR := Lib.hid (rep_both hrep hrep')
    have h' : (a : Int) < (L.length : Int) := by omega
    have hb' : (b : Int) < (L.length : Int) := by omega
    have hL : (L.length : Int) ≤ 30 := by omega
    clear hc hf hcell hx hy hT hrep hU hrep'
    go_enter Try.func47, Try.ntmps47
    go_wp2_with fail
    have N1 := Lib.hid (NodeAt.new w 5 a b 46)
    have HT1 := Lib.hid (HT.out.gr ((Gr.refl w).alloc (.cells #[.int .i64 5, .int .i64 (a : Int), .int .i64 (b : Int)] 46)))
    have HU1 := Lib.hid (HU.out.gr ((Gr.refl w).alloc (.cells #[.int .i64 5, .int .i64 (a : Int), .int .i64 (b : Int)] 46)))
    have C1 : Hid ((w.alloc (.cells #[.int .i64 5, .int .i64 (a : Int), .int .i64 (b : Int)] 46)).cell? ⟨vb, off + a, none⟩ = some x) := (((Gr.refl w).alloc _).cells.1 vb _ hvb).trans c1
    have C2 : Hid ((w.alloc (.cells #[.int .i64 5, .int .i64 (a : Int), .int .i64 (b : Int)] 46)).cell? ⟨vb, off + b, none⟩ = some y) := (((Gr.refl w).alloc _).cells.1 vb _ hvb).trans c2
    have G1 := Lib.hid ((Gr.refl w).alloc (.cells #[.int .i64 5, .int .i64 (a : Int), .int .i64 (b : Int)] 46))
    have hvb1 := Nat.lt_of_lt_of_le hvb G1.out.le
    clear HT HU c1 c2
    generalize w.alloc (.cells #[.int .i64 5, .int .i64 (a : Int), .int .i64 (b : Int)] 46) = w1 at *
    have hws : Hid (w.heap.size ≤ w1.heap.size) := G1.out.le
    generalize hBB : w.heap.size = BB at *
    obtain ⟨n0, n1, n2, n3⟩ := N1.out
    have d1 := C1.out
    have d2 := C2.out
    go_region_held3 (fun z => z.cell? ⟨BB, 1, none⟩ = some (.int .i64 (a : Int)) ∧ z.cell? ⟨BB, 2, none⟩ = some (.int .i64 (b : Int)) ∧ z.cell? ⟨vb, off + a, none⟩ = some x ∧ z.cell? ⟨vb, off + b, none⟩ = some y)
      (go_keep)
      (first
        | (go_at_call 31; refine (beside (fmeet_own (HT1.out.fs.le (by omega) |>.gr (Gr.refl _).drew) (HU1.out.fs.le (by omega) |>.gr (Gr.refl _).drew)) (fun e w' ⟨_, _, _, g⟩ => g) (c1 := ⟨BB, 1, none⟩) (c2 := ⟨BB, 2, none⟩) (c3 := ⟨vb, off + a, none⟩) (c4 := ⟨vb, off + b, none⟩) n0 n0 hvb1 hvb1 n2 n3 d1 d2).mono ?_; rintro e w3 ⟨⟨r2, rfl, hr2, g3⟩, k1, k2, k3, k4⟩))
    have H3 := Lib.hid (hr2.base (base' := BB) (by have := hws.out; simp; omega))
    have G3 := Lib.hid (G1.out.drew.trans g3)
    clear hr2 g3 k1 k2 k3 k4
    go_wp2_with fail
    go_ret
    exact ⟨_, rfl, ⟨_, hBB ▸ H3.out, HR.out⟩, G3.out⟩
  | any a b i h hb =>
    obtain ⟨x, hx⟩ : ∃ x, L[a]? = some x := ⟨_, List.getElem?_eq_getElem h⟩
    obtain ⟨y, hy⟩ : ∃ y, L[b]? = some y := ⟨_, List.getElem?_eq_getElem hb⟩
    obtain ⟨bs, T, hT, hrep⟩ := hf a x hx
    obtain ⟨bs', U, hU, hrep'⟩ := hf b y hy
    obtain ⟨vb, off, rfl, hvb, hc⟩ := hcell (by intro e; rw [e] at h; simp at h)
    have c1 := hc a x hx
    have c2 := hc b y hy
    have HT := Lib.hid hT
    have HU := Lib.hid hU
    have HR := Lib.hid (rep_any hrep hrep')
    have h' : (a : Int) < (L.length : Int) := by omega
    have hb' : (b : Int) < (L.length : Int) := by omega
    have hL : (L.length : Int) ≤ 30 := by omega
    clear hc hf hcell hx hy hT hrep hU hrep'
    go_enter Try.func47, Try.ntmps47
    go_wp2_with fail
    have N1 := Lib.hid (NodeAt.new w 6 a b 46)
    have HT1 := Lib.hid (HT.out.gr ((Gr.refl w).alloc (.cells #[.int .i64 6, .int .i64 (a : Int), .int .i64 (b : Int)] 46)))
    have HU1 := Lib.hid (HU.out.gr ((Gr.refl w).alloc (.cells #[.int .i64 6, .int .i64 (a : Int), .int .i64 (b : Int)] 46)))
    have C1 : Hid ((w.alloc (.cells #[.int .i64 6, .int .i64 (a : Int), .int .i64 (b : Int)] 46)).cell? ⟨vb, off + a, none⟩ = some x) := (((Gr.refl w).alloc _).cells.1 vb _ hvb).trans c1
    have C2 : Hid ((w.alloc (.cells #[.int .i64 6, .int .i64 (a : Int), .int .i64 (b : Int)] 46)).cell? ⟨vb, off + b, none⟩ = some y) := (((Gr.refl w).alloc _).cells.1 vb _ hvb).trans c2
    have G1 := Lib.hid ((Gr.refl w).alloc (.cells #[.int .i64 6, .int .i64 (a : Int), .int .i64 (b : Int)] 46))
    have hvb1 := Nat.lt_of_lt_of_le hvb G1.out.le
    clear HT HU c1 c2
    generalize w.alloc (.cells #[.int .i64 6, .int .i64 (a : Int), .int .i64 (b : Int)] 46) = w1 at *
    have hws : Hid (w.heap.size ≤ w1.heap.size) := G1.out.le
    generalize hBB : w.heap.size = BB at *
    obtain ⟨n0, n1, n2, n3⟩ := N1.out
    have d1 := C1.out
    have d2 := C2.out
    go_region_held3 (fun z => z.cell? ⟨BB, 1, none⟩ = some (.int .i64 (a : Int)) ∧ z.cell? ⟨BB, 2, none⟩ = some (.int .i64 (b : Int)) ∧ z.cell? ⟨vb, off + a, none⟩ = some x ∧ z.cell? ⟨vb, off + b, none⟩ = some y)
      (go_keep)
      (first
        | (go_at_call 30; refine (beside (fjoin_own (HT1.out.fs.le (by omega) |>.gr (Gr.refl _).drew) (HU1.out.fs.le (by omega) |>.gr (Gr.refl _).drew)) (fun e w' ⟨_, _, _, g⟩ => g) (c1 := ⟨BB, 1, none⟩) (c2 := ⟨BB, 2, none⟩) (c3 := ⟨vb, off + a, none⟩) (c4 := ⟨vb, off + b, none⟩) n0 n0 hvb1 hvb1 n2 n3 d1 d2).mono ?_; rintro e w3 ⟨⟨r2, rfl, hr2, g3⟩, k1, k2, k3, k4⟩))
    have H3 := Lib.hid (hr2.base (base' := BB) (by have := hws.out; simp; omega))
    have G3 := Lib.hid (G1.out.drew.trans g3)
    clear hr2 g3 k1 k2 k3 k4
    go_wp2_with fail
    go_ret
    exact ⟨_, rfl, ⟨_, hBB ▸ H3.out, HR.out⟩, G3.out⟩
end Go.Proofs.Ythnoafmdecehcaa
