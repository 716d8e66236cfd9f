/- Joined: FormD, FormE, FormF, FormL, FormG. -/
import Derived.Test.YtbodadddcbbjeaaFormA
import Derived.Test.YtbodadddcbbjeaaFilL
import Derived.Deep.RegionHeld3
import Derived.Lib.SliceRun
/- The contracts of package formula's box, filterOf and Filter. -/
namespace Rm
open Go Go.RowKit
set_option linter.unusedVariables false
/-- a slice of values of one cell each reads as a list -/
def RdV (w : World) (v : Value) (l : List Value) : Prop :=
  ∃ a c, v = .slice a l.length c ∧ l.length ≤ c ∧ (l ≠ [] → ∃ b off, a = some ⟨b, off, none⟩ ∧ b < w.heap.size ∧ ∀ i p, l[i]? = some p → w.cell? ⟨b, off + i, none⟩ = some p)
theorem RdV.gr {w w' : World} {v : Value} {l : List Value} (h : RdV w v l) (g : Gr w w') : RdV w' v l := by
  obtain ⟨a, c, e, hc, h⟩ := h
  refine ⟨a, c, e, hc, fun hl => ?_⟩
  obtain ⟨b, off, ea, hb, hx⟩ := h hl
  exact ⟨b, off, ea, Nat.lt_of_lt_of_le hb g.le, fun i p hp => (g.cells.1 b _ hb).trans (hx i p hp)⟩
theorem RdV.own {w : World} {base : Nat} {e : TypeId} {v : Value} {l : List Value} (h : w.ownsRow base e 1 v l.length l) : RdV w v l := by
  obtain ⟨hl, h⟩ := h
  rcases h with ⟨rfl, h0⟩ | ⟨g, cap, cur, rfl, _, hg, hn, _, hs, ht⟩
  · have : l = [] := List.eq_nil_of_length_eq_zero h0
    subst this
    exact ⟨none, 0, rfl, Nat.le_refl _, fun h => absurd rfl h⟩
  · refine ⟨_, _, rfl, hn, fun hne => ?_⟩
    have hlt : g < w.heap.size := by
      rcases Nat.lt_or_ge g w.heap.size with h | h
      · exact h
      · rw [Array.getElem?_eq_none h] at hg; cases hg
    refine ⟨g, 0, rfl, hlt, fun i p hp => ?_⟩
    have hi : i < l.length := (List.getElem?_eq_some_iff.1 hp).1
    have hf := hp
    rw [← ht, List.getElem?_take_of_lt (by omega)] at hf
    simpa [World.cell?, hg] using hf
/-- a table has the points of a set -/
def RepT (T : Nat → Nat) (P : Pt) : Prop := ∀ t, t < 16 → ∀ x, x < 32 → (T t).testBit x = P t x
theorem full_bit : ∀ x < 32, Nat.testBit 4294967295 x = true := by decide
theorem tag_tab : ∀ a < 4, ∀ t < 16, tabF [((2 ^ a, 0), 4294967295)] t = if Nat.testBit t a then 4294967295 else 0 := by decide +kernel
theorem vld_tag : ∀ a < 4, Vld (2 ^ a) 0 := by intro a h; exact ⟨by match a, h with | 0, _ | 1, _ | 2, _ | 3, _ => decide, by decide, by match a, h with | 0, _ | 1, _ | 2, _ | 3, _ => decide⟩
theorem rep_all (v : Nat → Pt) (a b : Int) : RepT (fun _ => 4294967295) (ndP (1, a, b) v) := fun t _ x hx => full_bit x hx
theorem rep_tag (v : Nat → Pt) {a : Nat} (b : Int) (h : a < 4) : RepT (tabF [((2 ^ a, 0), 4294967295)]) (ndP (2, (a : Int), b) v) := fun t ht x hx => by
  rw [tag_tab a h t ht]
  show _ = t.testBit a
  cases hc : t.testBit a
  · simp
  · simpa using full_bit x hx
theorem vf_one {a b : Nat} (h : a < b) (hb : b ≤ 32) : VF 0 [(a, b)] := by simp [VF]; omega
theorem inC_zero : ∀ t < 16, inC ((0, 0), 0) t = true := by decide +kernel
theorem rep_num (v : Nat → Pt) {a b : Nat} (h : a < b) (hb : b ≤ 32) : RepT (tabF [((0, 0), maskL [(a, b)])]) (ndP (3, (a : Int), (b : Int)) v) := fun t ht x hx => by
  show _ = (decide ((a : Int) ≤ (x : Int)) && decide ((x : Int) < (b : Int)))
  rw [Bool.eq_iff_iff, tabF_bit]
  have e : inC ((0, 0), maskL [(a, b)]) t = true := inC_zero t ht
  simp only [List.mem_singleton, exists_eq_left, e, true_and]
  rw [maskL_bit (vf_one h hb)]
  simp [memS]
theorem rep_not {v : Nat → Pt} {a : Nat} (b : Int) {T : Nat → Nat} (hT : OkT T) (h : RepT T (v a)) : RepT (fun t => lessM 4294967295 (T t)) (ndP (4, (a : Int), b) v) := fun t ht x hx => by
  show _ = !(v a t x)
  rw [← h t ht x hx, lessM_bit _ _ _ (hT t ht) (by decide), full_bit x hx]
  simp
theorem rep_both {v : Nat → Pt} {a b : Nat} {T U : Nat → Nat} (h : RepT T (v a)) (h' : RepT U (v b)) : RepT (fun t => T t &&& U t) (ndP (5, (a : Int), (b : Int)) v) := fun t ht x hx => by
  show _ = (v a t x && v b t x)
  rw [← h t ht x hx, ← h' t ht x hx, Nat.testBit_and]
theorem rep_any {v : Nat → Pt} {a b : Nat} {T U : Nat → Nat} (h : RepT T (v a)) (h' : RepT U (v b)) : RepT (fun t => T t ||| U t) (ndP (6, (a : Int), (b : Int)) v) := fun t ht x hx => by
  show _ = (v a t x || v b t x)
  rw [← h t ht x hx, ← h' t ht x hx, Nat.testBit_or]
end Rm
namespace Go.Proofs.Ytbodadddcbbjeaa
open Go.RowKit Rm
set_option linter.unusedVariables false

/-- a filter in new memory that has the points of a set -/
def FP (base : Nat) (w : World) (v : Value) (P : Pt) : Prop := ∃ T, FO base 16 w v T ∧ RepT T P
theorem FP.gr {base : Nat} {w w' : World} {v : Value} {P : Pt} (h : FP base w v P) (g : Gr w w') : FP base w' v P := by
  obtain ⟨T, h1, h2⟩ := h
  exact ⟨T, h1.gr g, h2⟩
theorem FP.base {base base' : Nat} {w : World} {v : Value} {P : Pt} (h : FP base w v P) (hb : base' ≤ base) : FP base' w v P := by
  obtain ⟨T, h1, h2⟩ := h
  exact ⟨T, h1.base hb, h2⟩

set_option maxHeartbeats 400000 in
set_option maxRecDepth 100000 in
theorem box_own (y n f t m : Nat) (w : World) (hc : canon m = [(f, t)]) (hm : m < 2 ^ 32) (hv : Vld y n) :
    Calls Try.prog 57 #[.agg #[.int .i64 (y : Int), .int .i64 (n : Int)], .int .i64 (f : Int), .int .i64 (t : Int)] w fun e w' => ∃ v, e = .returned v ∧ FO w.heap.size 1 w' v (tabF [((y, n), m)]) ∧ Gr w w' := by
  have HB := Lib.hid ((lit_own (w.alloc (.cells #[.int .i64 (y : Int), .int .i64 (n : Int)] 70)) y n f t m hc hm hv).base (base' := w.heap.size) (by simp))
  clear hc hm hv
  go_enter Try.func57, Try.ntmps57
  go_wp2
  go_ret
  exact ⟨_, rfl, by simpa using HB.out, (((Gr.refl _).alloc _).alloc _).alloc _⟩

/-- what is kept beside a call -/
theorem beside {f : Nat} {args : Array Value} {w : World} {A : Ending → World → Prop} (h : Calls Try.prog f args w A) (hg : ∀ e w', A e w' → Gr w w') {c1 c2 c3 c4 : Addr} {x1 x2 x3 x4 : Value}
    (b1 : c1.block < w.heap.size) (b2 : c2.block < w.heap.size) (b3 : c3.block < w.heap.size) (b4 : c4.block < w.heap.size) (k1 : w.cell? c1 = some x1) (k2 : w.cell? c2 = some x2) (k3 : w.cell? c3 = some x3) (k4 : w.cell? c4 = some x4) :
    Calls Try.prog f args w fun e w' => A e w' ∧ w'.cell? c1 = some x1 ∧ w'.cell? c2 = some x2 ∧ w'.cell? c3 = some x3 ∧ w'.cell? c4 = some x4 :=
  h.mono fun e w' ha => by
    have g := hg e w' ha
    refine ⟨ha, ?_, ?_, ?_, ?_⟩
    · exact (World.cell?_of_block (a := c1) (Below.block g _ b1)).trans k1
    · exact (World.cell?_of_block (a := c2) (Below.block g _ b2)).trans k2
    · exact (World.cell?_of_block (a := c3) (Below.block g _ b3)).trans k3
    · exact (World.cell?_of_block (a := c4) (Below.block g _ b4)).trans k4
end Go.Proofs.Ytbodadddcbbjeaa
/- The contract of package formula's filterOf. -/
namespace Go.Proofs.Ytbodadddcbbjeaa
open Go.RowKit Rm
set_option linter.unusedVariables false

theorem okT_of {base n : Nat} {w : World} {v : Value} {T : Nat → Nat} (h : FO base n w v T) : OkT T := fun t ht => h.fs.lt t ht

/-- the node in its block, and the filters of two earlier ones, stand as they were -/
def NodeAt (w : World) (B : Nat) (k a b : Int) : Prop := B < w.heap.size ∧ w.cell? ⟨B, 0, none⟩ = some (.int .i64 k) ∧ w.cell? ⟨B, 1, none⟩ = some (.int .i64 a) ∧ w.cell? ⟨B, 2, none⟩ = some (.int .i64 b)
theorem NodeAt.gr {w w' : World} {B : Nat} {k a b : Int} (h : NodeAt w B k a b) (g : Gr w w') : NodeAt w' B k a b :=
  ⟨Nat.lt_of_lt_of_le h.1 g.le, (g.cells.1 B 0 h.1).trans h.2.1, (g.cells.1 B 1 h.1).trans h.2.2.1, (g.cells.1 B 2 h.1).trans h.2.2.2⟩
theorem NodeAt.new (w : World) (k a b : Int) (t : TypeId) : NodeAt (w.alloc (.cells #[.int .i64 k, .int .i64 a, .int .i64 b] t)) w.heap.size k a b := by
  refine ⟨by simp, ?_, ?_, ?_⟩ <;> simp [go_sem]

set_option maxHeartbeats 1000000 in
set_option maxRecDepth 100000 in
theorem filterOf_ok (k a b : Int) (u : Value) (L : List Value) (v : Nat → Pt) (w : World) (hn : OkN (k, a, b) L.length) (hu : RdV w u L) (hf : ∀ i x, L[i]? = some x → ∃ base, FP base w x (v i)) (hl : L.length ≤ 30) :
    Calls Try.prog 33 #[.agg #[.int .i64 k, .int .i64 a, .int .i64 b], u] w fun e w' => ∃ r, e = .returned r ∧ FP w.heap.size w' r (ndP (k, a, b) v) ∧ Gr w w' := by
  obtain ⟨ua, uc, rfl, huc, hcell⟩ := hu
  cases hn.of with
  | all a b i =>
    go_enter Try.func33, Try.ntmps33
    go_wp2_with fail
    refine (fevery_own _).mono ?_
    rintro e w1 ⟨r, rfl, hr, g1⟩
    have HR := Lib.hid ((hr.base (base' := w.heap.size) (by simp)).le (m := 16) (by omega))
    clear hr
    go_wp2_with fail
    go_ret
    exact ⟨r, rfl, ⟨_, HR.out, rep_all _ _ _⟩, ((Gr.refl _).alloc _).trans g1⟩
  | tag a b i h =>
    have HV := Lib.hid (fun wx => box_own (2 ^ a) 0 0 32 4294967295 wx canonFull (by decide) (vld_tag a h))
    have HR := Lib.hid (rep_tag v b h)
    have hp : wrap64 (2 ^ a) = ((2 ^ a : Nat) : Int) := by
      have h1 := pow16 a h
      have h2 : ((2 ^ a : Nat) : Int) = (2 : Int) ^ a := by simp
      rw [← h2]
      generalize 2 ^ a = x at *
      unfold wrap64
      omega
    clear hcell hf
    go_enter Try.func33, Try.ntmps33
    go_wp2_with fail
    rw [hp]
    refine (HV.out _).mono ?_
    rintro e w1 ⟨r, rfl, hr, g1⟩
    have H1 := Lib.hid ((hr.base (base' := w.heap.size) (by simp)).le (m := 16) (by omega))
    clear hr hp
    go_wp2_with fail
    go_ret
    exact ⟨r, rfl, ⟨_, H1.out, HR.out⟩, ((Gr.refl _).alloc _).trans g1⟩
  | num a b i h hb =>
    have HV := Lib.hid (fun wx => box_own 0 0 a b (maskL [(a, b)]) wx (canon_maskL (vf_one h hb)) (maskL_lt (vf_one h hb).le) vld00)
    have HR := Lib.hid (rep_num v h hb)
    clear hcell hf
    go_enter Try.func33, Try.ntmps33
    go_wp2_with fail
    refine (HV.out _).mono ?_
    rintro e w1 ⟨r, rfl, hr, g1⟩
    have H1 := Lib.hid ((hr.base (base' := w.heap.size) (by simp)).le (m := 16) (by omega))
    clear hr
    go_wp2_with fail
    go_ret
    exact ⟨r, rfl, ⟨_, H1.out, HR.out⟩, ((Gr.refl _).alloc _).trans g1⟩
  | not a b i h =>
    obtain ⟨x, hx⟩ : ∃ x, L[a]? = some x := ⟨_, List.getElem?_eq_getElem h⟩
    obtain ⟨bs, T, hT, hrep⟩ := hf a x hx
    obtain ⟨vb, off, rfl, hvb, hc⟩ := hcell (by intro e; rw [e] at h; simp at h)
    have c1 := hc a x hx
    have HT := Lib.hid hT
    have HR := Lib.hid (rep_not b (okT_of hT) hrep)
    have h' : (a : Int) < (L.length : Int) := by omega
    have hL : (L.length : Int) ≤ 30 := by omega
    clear hc hf hcell hx hT hrep
    go_enter Try.func33, Try.ntmps33
    go_wp2_with fail
    have N1 := Lib.hid (NodeAt.new w 4 a b 40)
    have HT1 := Lib.hid (HT.out.gr ((Gr.refl w).alloc (.cells #[.int .i64 4, .int .i64 (a : Int), .int .i64 b] 40)))
    have C1 : Hid ((w.alloc (.cells #[.int .i64 4, .int .i64 (a : Int), .int .i64 b] 40)).cell? ⟨vb, off + a, none⟩ = some x) := (((Gr.refl w).alloc _).cells.1 vb _ hvb).trans c1
    have G1 := Lib.hid ((Gr.refl w).alloc (.cells #[.int .i64 4, .int .i64 (a : Int), .int .i64 b] 40))
    have hvb1 := Nat.lt_of_lt_of_le hvb G1.out.le
    clear HT c1
    generalize w.alloc (.cells #[.int .i64 4, .int .i64 (a : Int), .int .i64 b] 40) = w1 at *
    have hws : Hid (w.heap.size ≤ w1.heap.size) := G1.out.le
    generalize hBB : w.heap.size = BB at *
    obtain ⟨n0, n1, n2, n3⟩ := N1.out
    have d1 := C1.out
    go_region_held3 (fun y => y.cell? ⟨BB, 1, none⟩ = some (.int .i64 (a : Int)) ∧ y.cell? ⟨vb, off + a, none⟩ = some x)
      (go_keep)
      (first
        | (go_at_call 9; refine (beside (fevery_own w1.drew) (fun e w' ⟨_, _, _, g⟩ => g) (c1 := ⟨BB, 1, none⟩) (c2 := ⟨vb, off + a, none⟩) (c3 := ⟨BB, 1, none⟩) (c4 := ⟨BB, 1, none⟩) n0 hvb1 n0 n0 n2 d1 n2 n2).mono ?_; rintro e w2 ⟨⟨r1, rfl, hr1, g2⟩, k1, k2, -, -⟩)
        | (go_at_call 8; refine (beside (fless_own (hr1.fs.le (by omega)) (((HT1.out.fs.le (by omega)).gr ((Gr.refl _).drew.trans g2)))) (fun e w' ⟨_, _, _, g⟩ => g) (c1 := ⟨BB, 1, none⟩) (c2 := ⟨vb, off + a, none⟩) (c3 := ⟨BB, 1, none⟩) (c4 := ⟨BB, 1, none⟩) (Nat.lt_of_lt_of_le n0 g2.le) (Nat.lt_of_lt_of_le hvb1 g2.le) (Nat.lt_of_lt_of_le n0 g2.le) (Nat.lt_of_lt_of_le n0 g2.le) k1 k2 k1 k1).mono ?_; rintro e w3 ⟨⟨r2, rfl, hr2, g3⟩, k3, k4, -, -⟩))
    have H3 := Lib.hid (hr2.base (base' := BB) (by have := hws.out; have := g2.le; simp at this; omega))
    have G3 := Lib.hid ((G1.out.drew.trans g2).trans g3)
    clear hr1 hr2 g2 g3 k1 k2 k3 k4
    go_wp2_with fail
    go_ret
    exact ⟨_, rfl, ⟨_, hBB ▸ H3.out, HR.out⟩, G3.out⟩
  | both a b i h hb =>
    obtain ⟨x, hx⟩ : ∃ x, L[a]? = some x := ⟨_, List.getElem?_eq_getElem h⟩
    obtain ⟨y, hy⟩ : ∃ y, L[b]? = some y := ⟨_, List.getElem?_eq_getElem hb⟩
    obtain ⟨bs, T, hT, hrep⟩ := hf a x hx
    obtain ⟨bs', U, hU, hrep'⟩ := hf b y hy
    obtain ⟨vb, off, rfl, hvb, hc⟩ := hcell (by intro e; rw [e] at h; simp at h)
    have c1 := hc a x hx
    have c2 := hc b y hy
    have HT := Lib.hid hT
    have HU := Lib.hid hU
    have HR := Lib.hid (rep_both hrep hrep')
    have h' : (a : Int) < (L.length : Int) := by omega
    have hb' : (b : Int) < (L.length : Int) := by omega
    have hL : (L.length : Int) ≤ 30 := by omega
    clear hc hf hcell hx hy hT hrep hU hrep'
    go_enter Try.func33, Try.ntmps33
    go_wp2_with fail
    have N1 := Lib.hid (NodeAt.new w 5 a b 40)
    have HT1 := Lib.hid (HT.out.gr ((Gr.refl w).alloc (.cells #[.int .i64 5, .int .i64 (a : Int), .int .i64 (b : Int)] 40)))
    have HU1 := Lib.hid (HU.out.gr ((Gr.refl w).alloc (.cells #[.int .i64 5, .int .i64 (a : Int), .int .i64 (b : Int)] 40)))
    have C1 : Hid ((w.alloc (.cells #[.int .i64 5, .int .i64 (a : Int), .int .i64 (b : Int)] 40)).cell? ⟨vb, off + a, none⟩ = some x) := (((Gr.refl w).alloc _).cells.1 vb _ hvb).trans c1
    have C2 : Hid ((w.alloc (.cells #[.int .i64 5, .int .i64 (a : Int), .int .i64 (b : Int)] 40)).cell? ⟨vb, off + b, none⟩ = some y) := (((Gr.refl w).alloc _).cells.1 vb _ hvb).trans c2
    have G1 := Lib.hid ((Gr.refl w).alloc (.cells #[.int .i64 5, .int .i64 (a : Int), .int .i64 (b : Int)] 40))
    have hvb1 := Nat.lt_of_lt_of_le hvb G1.out.le
    clear HT HU c1 c2
    generalize w.alloc (.cells #[.int .i64 5, .int .i64 (a : Int), .int .i64 (b : Int)] 40) = w1 at *
    have hws : Hid (w.heap.size ≤ w1.heap.size) := G1.out.le
    generalize hBB : w.heap.size = BB at *
    obtain ⟨n0, n1, n2, n3⟩ := N1.out
    have d1 := C1.out
    have d2 := C2.out
    go_region_held3 (fun z => z.cell? ⟨BB, 1, none⟩ = some (.int .i64 (a : Int)) ∧ z.cell? ⟨BB, 2, none⟩ = some (.int .i64 (b : Int)) ∧ z.cell? ⟨vb, off + a, none⟩ = some x ∧ z.cell? ⟨vb, off + b, none⟩ = some y)
      (go_keep)
      (first
        | (go_at_call 11; refine (beside (fmeet_own (HT1.out.fs.le (by omega) |>.gr (Gr.refl _).drew) (HU1.out.fs.le (by omega) |>.gr (Gr.refl _).drew)) (fun e w' ⟨_, _, _, g⟩ => g) (c1 := ⟨BB, 1, none⟩) (c2 := ⟨BB, 2, none⟩) (c3 := ⟨vb, off + a, none⟩) (c4 := ⟨vb, off + b, none⟩) n0 n0 hvb1 hvb1 n2 n3 d1 d2).mono ?_; rintro e w3 ⟨⟨r2, rfl, hr2, g3⟩, k1, k2, k3, k4⟩))
    have H3 := Lib.hid (hr2.base (base' := BB) (by have := hws.out; simp; omega))
    have G3 := Lib.hid (G1.out.drew.trans g3)
    clear hr2 g3 k1 k2 k3 k4
    go_wp2_with fail
    go_ret
    exact ⟨_, rfl, ⟨_, hBB ▸ H3.out, HR.out⟩, G3.out⟩
  | any a b i h hb =>
    obtain ⟨x, hx⟩ : ∃ x, L[a]? = some x := ⟨_, List.getElem?_eq_getElem h⟩
    obtain ⟨y, hy⟩ : ∃ y, L[b]? = some y := ⟨_, List.getElem?_eq_getElem hb⟩
    obtain ⟨bs, T, hT, hrep⟩ := hf a x hx
    obtain ⟨bs', U, hU, hrep'⟩ := hf b y hy
    obtain ⟨vb, off, rfl, hvb, hc⟩ := hcell (by intro e; rw [e] at h; simp at h)
    have c1 := hc a x hx
    have c2 := hc b y hy
    have HT := Lib.hid hT
    have HU := Lib.hid hU
    have HR := Lib.hid (rep_any hrep hrep')
    have h' : (a : Int) < (L.length : Int) := by omega
    have hb' : (b : Int) < (L.length : Int) := by omega
    have hL : (L.length : Int) ≤ 30 := by omega
    clear hc hf hcell hx hy hT hrep hU hrep'
    go_enter Try.func33, Try.ntmps33
    go_wp2_with fail
    have N1 := Lib.hid (NodeAt.new w 6 a b 40)
    have HT1 := Lib.hid (HT.out.gr ((Gr.refl w).alloc (.cells #[.int .i64 6, .int .i64 (a : Int), .int .i64 (b : Int)] 40)))
    have HU1 := Lib.hid (HU.out.gr ((Gr.refl w).alloc (.cells #[.int .i64 6, .int .i64 (a : Int), .int .i64 (b : Int)] 40)))
    have C1 : Hid ((w.alloc (.cells #[.int .i64 6, .int .i64 (a : Int), .int .i64 (b : Int)] 40)).cell? ⟨vb, off + a, none⟩ = some x) := (((Gr.refl w).alloc _).cells.1 vb _ hvb).trans c1
    have C2 : Hid ((w.alloc (.cells #[.int .i64 6, .int .i64 (a : Int), .int .i64 (b : Int)] 40)).cell? ⟨vb, off + b, none⟩ = some y) := (((Gr.refl w).alloc _).cells.1 vb _ hvb).trans c2
    have G1 := Lib.hid ((Gr.refl w).alloc (.cells #[.int .i64 6, .int .i64 (a : Int), .int .i64 (b : Int)] 40))
    have hvb1 := Nat.lt_of_lt_of_le hvb G1.out.le
    clear HT HU c1 c2
    generalize w.alloc (.cells #[.int .i64 6, .int .i64 (a : Int), .int .i64 (b : Int)] 40) = w1 at *
    have hws : Hid (w.heap.size ≤ w1.heap.size) := G1.out.le
    generalize hBB : w.heap.size = BB at *
    obtain ⟨n0, n1, n2, n3⟩ := N1.out
    have d1 := C1.out
    have d2 := C2.out
    go_region_held3 (fun z => z.cell? ⟨BB, 1, none⟩ = some (.int .i64 (a : Int)) ∧ z.cell? ⟨BB, 2, none⟩ = some (.int .i64 (b : Int)) ∧ z.cell? ⟨vb, off + a, none⟩ = some x ∧ z.cell? ⟨vb, off + b, none⟩ = some y)
      (go_keep)
      (first
        | (go_at_call 12; refine (beside (fjoin_own (HT1.out.fs.le (by omega) |>.gr (Gr.refl _).drew) (HU1.out.fs.le (by omega) |>.gr (Gr.refl _).drew)) (fun e w' ⟨_, _, _, g⟩ => g) (c1 := ⟨BB, 1, none⟩) (c2 := ⟨BB, 2, none⟩) (c3 := ⟨vb, off + a, none⟩) (c4 := ⟨vb, off + b, none⟩) n0 n0 hvb1 hvb1 n2 n3 d1 d2).mono ?_; rintro e w3 ⟨⟨r2, rfl, hr2, g3⟩, k1, k2, k3, k4⟩))
    have H3 := Lib.hid (hr2.base (base' := BB) (by have := hws.out; simp; omega))
    have G3 := Lib.hid (G1.out.drew.trans g3)
    clear hr2 g3 k1 k2 k3 k4
    go_wp2_with fail
    go_ret
    exact ⟨_, rfl, ⟨_, hBB ▸ H3.out, HR.out⟩, G3.out⟩
end Go.Proofs.Ytbodadddcbbjeaa
/- The contracts of package formula's Filter. -/
namespace Rm
open Go Go.RowKit
theorem own_apart {w : World} {b1 b2 : Nat} {e1 e2 : TypeId} {s1 s2 : Nat} {v1 v2 : Value} {n1 n2 : Nat} {xs1 xs2 : List Value} (h1 : w.ownsRow b1 e1 s1 v1 n1 xs1) (h2 : w.ownsRow b2 e2 s2 v2 n2 xs2) (he : e1 ≠ e2) : v1.ownBlock = none ∨ v1.ownBlock ≠ v2.ownBlock := by
  rcases h1.2 with ⟨rfl, _⟩ | ⟨g1, c1, cur1, rfl, _, hg1, _⟩
  · exact .inl rfl
  · rcases h2.2 with ⟨rfl, _⟩ | ⟨g2, c2, cur2, rfl, _, hg2, _⟩
    · exact .inr (by simp [Value.ownBlock])
    · refine .inr fun e => ?_
      simp [Value.ownBlock] at e
      subst e
      rw [hg1] at hg2
      simp at hg2
      exact he hg2.2
end Rm
namespace Go.Proofs.Ytbodadddcbbjeaa
open Go.RowKit Rm
set_option linter.unusedVariables false

theorem FO.grown {base n b : Nat} {w w' : World} {v u : Value} {T : Nat → Nat} {E : TypeId} {s m : Nat} {xs : List Value} (h : FO base n w v T) (hu : w.ownsRow b E s u m xs) (hg : w.grownBy w' u.ownBlock) (h1 : 72 ≠ E) (h2 : 53 ≠ E) : FO base n w' v T := by
  obtain ⟨O, k1, k2, k3⟩ := h
  exact ⟨O, k1.kept hg (own_apart k1 hu h1), fun p hp => (k2 p hp).kept hg (own_apart (k2 p hp) hu h2), k3⟩
theorem FP.grown {base b : Nat} {w w' : World} {v u : Value} {P : Pt} {E : TypeId} {s m : Nat} {xs : List Value} (h : FP base w v P) (hu : w.ownsRow b E s u m xs) (hg : w.grownBy w' u.ownBlock) (h1 : 72 ≠ E) (h2 : 53 ≠ E) : FP base w' v P := by
  obtain ⟨T, k1, k2⟩ := h
  exact ⟨T, k1.grown hu hg h1 h2, k2⟩
theorem FP.one {base : Nat} {w : World} {v : Value} {P : Pt} (h : FP base w v P) : v.oneCell' = true := by
  obtain ⟨T, ⟨O, k1, _⟩, _⟩ := h
  obtain ⟨a, c, rfl, _⟩ := own_form k1
  rfl
theorem FP.form {base : Nat} {w : World} {v : Value} {P : Pt} (h : FP base w v P) : ∃ a n c, v = .slice a n c ∧ n ≤ 16 := by
  obtain ⟨T, ⟨O, k1, _, _, hl, _⟩, _⟩ := h
  obtain ⟨a, c, rfl, _⟩ := own_form k1
  exact ⟨a, _, c, rfl, hl⟩
theorem filter_info : (Try.prog.info? 27).map (fun i => (i.zero, i.size, i.bytes)) = some (some (.slice none 0 0), 1, 24) := by kernel_rfl

set_option maxHeartbeats 400000 in
set_option maxRecDepth 100000 in
theorem lfilter_bad {v : Value} {l : List Nd} {w : World} (hr : RdN w v l) (hc : (chkL l == 0) = false) :
    Calls Try.prog 7 #[v] w fun e w' => e = .returned (.tuple #[.slice none 0 0, .int .i64 (chkL l)]) ∧ Gr w w' := by
  have hc' := bne_of' hc
  have HR := Lib.hid hr
  clear hr
  go_enter Try.func7, Try.ntmps7
  go_wp2_with fail
  refine (lcheck_any _ _ _ HR.out).mono ?_
  rintro e w1 ⟨rfl, g1⟩
  go_wp2_with fail
  go_ret2
  exact ⟨rfl, g1⟩

/-- where the loop of Filter stands: the filters of the first nodes -/
def FiltAt (w wr : World) (u : Value) (L : List Value) (v : List Pt) : Prop :=
  Gr w wr ∧ wr.ownsRow w.heap.size 27 1 u L.length L ∧ L.length = v.length ∧ ∀ i x, L[i]? = some x → FP w.heap.size wr x (getP v i)

set_option maxHeartbeats 2000000 in
set_option maxRecDepth 100000 in
theorem lfilter_ok {v : Value} {l : List Nd} {w : World} (hr : RdN w v l) (hc : OkL l) :
    Calls Try.prog 7 #[v] w fun e w' => ∃ r, e = .returned (.tuple #[r, .int .i64 0]) ∧ FP w.heap.size w' r (formP l) ∧ Gr w w' := by
  obtain ⟨i0, hi0, hz0, hz1, hz2⟩ := info_parts filter_info
  have hc' := chkL_of hc
  obtain ⟨hl0, hl30, hnd⟩ := hc
  have HN := Lib.hid hnd
  have HR := Lib.hid hr
  obtain ⟨a, cp, rfl, hcp, hcell⟩ := hr
  have HX := Lib.hid hcell
  have hlen' : (l.length : Int) ≤ 30 := by omega
  have hlen0 : (0 : Int) < (l.length : Int) := by omega
  clear hnd hcell
  go_enter Try.func7, Try.ntmps7
  go_wp2_with fail
  refine (lcheck_any _ _ _ HR.out).mono ?_
  rw [hc']
  rintro e w1 ⟨rfl, g1⟩
  clear HR
  go_wp2_with fail
  go_loopw [5, 15] (fun u i wr => ∃ (k : Nat) (L : List Value), k ≤ l.length ∧ i = .int .i64 k ∧ FiltAt w wr u L (semL (l.take k))) (fun _ i _ => l.length - (intOf i).toNat)
  case atStart => exact ⟨0, [], by omega, rfl, g1, World.ownsRow_nil _ _ _ _, rfl, fun i x hx => by simp at hx⟩
  case round =>
    obtain ⟨k, L, hk, rfl, hg, hown, hLl, hfp⟩ := hrel
    have hbl : L.length = k := by rw [hLl, semL_len, List.length_take]; omega
    by_cases hlt : k < l.length
    · obtain ⟨⟨kd, na, nb⟩, hnk⟩ : ∃ p, l[k]? = some p := ⟨_, List.getElem?_eq_getElem hlt⟩
      obtain ⟨b, off, rfl, hb, hcl⟩ := HX.out (by intro e; rw [e] at hlt; simp at hlt)
      obtain ⟨c1, c2, c3⟩ := hcl k _ hnk
      rw [← hg.cells.1 b _ hb] at c1 c2 c3
      simp only at c1 c2 c3
      have hbr : b < wr.heap.size := Nat.lt_of_lt_of_le hb hg.le
      have hk30 : (k : Int) < 30 := by omega
      have HOK : Hid (OkN (kd, na, nb) L.length) := by rw [hbl]; exact HN.out k _ hnk
      have HS := Lib.hid (semL_take hnk)
      have HO := Lib.hid hown
      have HFP := Lib.hid hfp
      have hLv := Lib.hid hLl
      obtain ⟨ua, uc, rfl, huc⟩ := own_form hown
      have hb30 : L.length < 30 := by omega
      generalize semL (l.take k) = sv at *
      clear hcl hnk hown hbl hfp hLl
      have RB := Lib.hid ((RdV.own HO.out).gr ((Gr.refl wr).alloc (.cells #[.int .i64 kd, .int .i64 na, .int .i64 nb] 40)))
      go_wp2_with fail
      refine (filterOf_ok kd na nb _ L (getP sv) _ HOK.out RB.out (fun i x hx => ⟨_, (HFP.out i x hx).gr ((Gr.refl wr).alloc _)⟩) (by omega)).mono ?_
      rintro e w3 ⟨r, rfl, hr3, g3⟩
      obtain ⟨ra, rn, rc, rfl, -⟩ := hr3.form
      have R3 := Lib.hid (hr3.base (base' := w.heap.size) (by have := hg.le; simp; omega))
      have G3 := Lib.hid ((hg.alloc (.cells #[.int .i64 kd, .int .i64 na, .int .i64 nb] 40)).trans g3)
      have O3 := Lib.hid (own_gr (HO.out.alloc (.cells #[.int .i64 kd, .int .i64 na, .int .i64 nb] 40)) g3)
      have F3 := Lib.hid (fun i x (hx : L[i]? = some x) => ((HFP.out i x hx).gr ((Gr.refl wr).alloc (.cells #[.int .i64 kd, .int .i64 na, .int .i64 nb] 40))).gr g3)
      have HF : Hid ((L ++ [Value.slice ra rn rc]).length = L.length + 1) := by unfold Hid; simp
      have HW := G3.out.le
      clear RB HO c1 c2 c3 g3 HOK HFP hr3
      go_wp2_with (at_builtin; refine wpList_append_own _ rfl (.tmp 19) (.tmp 23) 49 rfl w.heap.size 27 i0 _ 1 24 Try.underlying49 hi0 hz0 hz1 hz2 rfl (by omega) _ _ _ rfl (O3.out.alloc _) ⟨w3.heap.size, 0, none⟩ 1 1 [.slice ra rn rc] rfl rfl (new1 _ _ _) (by intro u hu; simp at hu; subst hu; rfl) (by simp only [maxLen]; omega) (by omega) (by simp; omega) ?_; intro v1 w4 hown hg1 _)
      go_roundw
      case rel =>
        refine ⟨k + 1, L ++ [.slice ra rn rc], by omega, by go_num, (G3.out.alloc _).grown hg1 (fun k hk => (O3.out.lt k hk).1), by rw [HF.out]; exact hown, by rw [HS.out, HF.out, hLv.out]; simp, fun i x hx => ?_⟩
        rw [HS.out]
        rcases Nat.lt_or_ge i L.length with c | c
        · rw [List.getElem?_append_left c] at hx
          rw [getP_app (by rw [← hLv.out]; exact c)]
          exact ((F3.out i x hx).gr ((Gr.refl _).alloc _)).grown (O3.out.alloc _) hg1 (by decide) (by decide)
        · rw [List.getElem?_append_right c] at hx
          have h0 : i - L.length = 0 := by
            rcases Nat.eq_zero_or_pos (i - L.length) with z | z
            · exact z
            · rw [List.getElem?_eq_none (by simp; omega)] at hx; cases hx
          rw [h0] at hx
          obtain rfl : Value.slice ra rn rc = x := by simpa using hx
          rw [show i = sv.length by have := hLv.out; omega, getP_end]
          exact (R3.out.gr ((Gr.refl _).alloc _)).grown (O3.out.alloc _) hg1 (by decide) (by decide)
      case measure => simp [intOf]; omega
    · obtain rfl : k = l.length := by omega
      obtain ⟨r, hr⟩ : ∃ r, L[l.length - 1]? = some r := ⟨_, List.getElem?_eq_getElem (by omega)⟩
      have HP : Hid (FP w.heap.size wr r (formP l)) := by
        have := hfp _ _ hr
        rw [List.take_length] at this
        exact this
      have RB := RdV.own hown
      obtain ⟨ua, uc, rfl, huc, hbc⟩ := RB
      have hne : L ≠ [] := by intro e; subst e; simp at hbl; omega
      rw [hbl] at *
      obtain ⟨vb, off, rfl, hvb, hcl⟩ := hbc hne
      have c1 := hcl _ _ hr
      have hsub : (l.length : Int) - 1 = ((l.length - 1 : Nat) : Int) := by omega
      have hlt1 : ((l.length - 1 : Nat) : Int) < (l.length : Int) := by omega
      clear hcl hown hne hfp hr
      generalize l.length - 1 = m at *
      go_wp2_with fail
      go_ret2
      exact ⟨r, rfl, HP.out, hg⟩
end Go.Proofs.Ytbodadddcbbjeaa
/- Filters that have the points of one set are the same. -/
namespace Go.Proofs.Ytbodadddcbbjeaa
open Go.RowKit Rm
set_option linter.unusedVariables false
theorem fp_same {T U : Nat → Nat} {P : Pt} (hT : OkT T) (hU : OkT U) (h : RepT T P) (h' : RepT U P) : sameT T U = true := by
  refine sameT_of (fun t ht => ?_)
  apply Nat.eq_of_testBit_eq
  intro i
  rcases Nat.lt_or_ge i 32 with c | c
  · rw [h t ht i c, h' t ht i c]
  · rw [Nat.testBit_lt_two_pow (Nat.lt_of_lt_of_le (hT t ht) (Nat.pow_le_pow_right (by omega) c)), Nat.testBit_lt_two_pow (Nat.lt_of_lt_of_le (hU t ht) (Nat.pow_le_pow_right (by omega) c))]
theorem FP.fs {base : Nat} {w : World} {v : Value} {P : Pt} (h : FP base w v P) : ∃ T, FS w v T ∧ OkT T ∧ RepT T P := by
  obtain ⟨T, h1, h2⟩ := h
  exact ⟨T, h1.fs.le (by omega), okT_of h1, h2⟩
end Go.Proofs.Ytbodadddcbbjeaa
/- slices.Clone over nodes; nodes that are written out; nodes behind a formula. -/
namespace Rm
open Go Go.RowKit
theorem flatN_split (l : List Nd) (j : Nat) (u : Value) (h : (flatN l)[j]? = some u) : ∃ i p, l[i]? = some p ∧ ((j = i * 3 ∧ u = .int .i64 p.1) ∨ (j = i * 3 + 1 ∧ u = .int .i64 p.2.1) ∨ (j = i * 3 + 2 ∧ u = .int .i64 p.2.2)) := by
  have hj : j < l.length * 3 := by rw [← flatN_len]; exact (List.getElem?_eq_some_iff.1 h).1
  obtain ⟨p, hp⟩ : ∃ p, l[j / 3]? = some p := ⟨_, List.getElem?_eq_getElem (by omega)⟩
  have hf := flatN_at l (j / 3) p hp
  refine ⟨j / 3, p, hp, ?_⟩
  have hm : j % 3 = 0 ∨ j % 3 = 1 ∨ j % 3 = 2 := by omega
  rcases hm with m | m | m
  · left
    have e : j = j / 3 * 3 := by omega
    refine ⟨e, ?_⟩
    have h1 := hf.1
    rw [← e, h] at h1
    exact Option.some.inj h1
  · right; left
    have e : j = j / 3 * 3 + 1 := by omega
    refine ⟨e, ?_⟩
    have h1 := hf.2.1
    rw [← e, h] at h1
    exact Option.some.inj h1
  · right; right
    have e : j = j / 3 * 3 + 2 := by omega
    refine ⟨e, ?_⟩
    have h1 := hf.2.2
    rw [← e, h] at h1
    exact Option.some.inj h1
theorem rdN_cells {w : World} {b off : Nat} {l : List Nd} (h : ∀ i p, l[i]? = some p → w.cell? ⟨b, off + i * 3, none⟩ = some (.int .i64 p.1) ∧ w.cell? ⟨b, off + i * 3 + 1, none⟩ = some (.int .i64 p.2.1) ∧ w.cell? ⟨b, off + i * 3 + 2, none⟩ = some (.int .i64 p.2.2)) :
    ∀ j u, (flatN l)[j]? = some u → w.cell? ((⟨b, off, none⟩ : Addr).add j) = some u := by
  intro j u hu
  have ea : (⟨b, off, none⟩ : Addr).add j = ⟨b, off + j, none⟩ := by unfold Addr.add; by_cases h : j = 0 <;> simp [h]
  rw [ea]
  obtain ⟨i, p, hp, hc⟩ := flatN_split l j u hu
  obtain ⟨h1, h2, h3⟩ := h i p hp
  rcases hc with ⟨rfl, rfl⟩ | ⟨rfl, rfl⟩ | ⟨rfl, rfl⟩
  · exact h1
  · rw [← Nat.add_assoc]; exact h2
  · rw [← Nat.add_assoc]; exact h3
end Rm
namespace Go.Proofs.Ytbodadddcbbjeaa
open Go.RowKit Rm
set_option linter.unusedVariables false

theorem node_info : (Try.prog.info? 40).map (fun i => (i.zero, i.size, i.bytes)) = some (some (.agg #[.int .i64 0, .int .i64 0, .int .i64 0]), 3, 24) := by kernel_rfl
/-- nodes in new memory -/
def OwnN (base : Nat) (w : World) (u : Value) (l : List Nd) : Prop := w.ownsRow base 40 3 u l.length (flatN l)
theorem OwnN.gr {base : Nat} {w w' : World} {u : Value} {l : List Nd} (h : OwnN base w u l) (g : Gr w w') : OwnN base w' u l := own_gr h g
theorem OwnN.rd {base : Nat} {w : World} {u : Value} {l : List Nd} (h : OwnN base w u l) : RdN w u l := RdN.own h
theorem OwnN.app {base : Nat} {w : World} {u : Value} {l r : List Nd} {n : Nat} {xs : List Value} (h : w.ownsRow base 40 3 u n xs) (hn : n = (l ++ r).length) (hx : xs = flatN l ++ flatN r) : OwnN base w u (l ++ r) := by
  unfold OwnN
  rw [flatN_app, ← hn, ← hx]
  exact h

set_option maxHeartbeats 400000 in
set_option maxRecDepth 100000 in
theorem clone_nodes {w : World} {v : Value} {l : List Nd} (hr : RdN w v l) (hl : l ≠ []) (hn : l.length ≤ 1000) :
    Calls Try.prog 24 #[v] w fun e w' => ∃ u, e = .returned u ∧ OwnN w.heap.size w' u l ∧ Gr w w' := by
  obtain ⟨i0, hi0, hz0, hz1, hz2⟩ := info_parts node_info
  obtain ⟨a, c, rfl, hc, hx⟩ := hr
  obtain ⟨b, off, rfl, hb, hcell⟩ := hx hl
  have HC := Lib.hid (rdN_cells (fun i p hp => by
    obtain ⟨h1, h2, h3⟩ := hcell i p hp
    have g := (Gr.refl w).alloc (.cells #[] 40)
    exact ⟨(g.cells.1 b _ hb).trans h1, (g.cells.1 b _ hb).trans h2, (g.cells.1 b _ hb).trans h3⟩) : ∀ j u, (flatN l)[j]? = some u → (w.alloc (.cells #[] 40)).cell? ((⟨b, off, none⟩ : Addr).add j) = some u)
  have HO : Hid ((w.alloc (.cells #[] 40)).ownsRow w.heap.size 40 3 (.slice (some ⟨w.heap.size, 0, none⟩) 0 0) 0 []) := World.ownsRow_made w #[] 0 (Nat.le_refl _) (by simp [maxLen]) rfl
  have HF := Lib.hid (flatN_len l)
  have H1 := Lib.hid (flatN_one l)
  have hq : ∀ wx : World, (binOp .eql 22 (.slice (some ⟨b, off, none⟩) l.length c) (.slice none 0 0)).run Try.prog wx = .ok (.bool false) wx := fun wx => by
    have := Lib.run_eql_slice_nil (P := Try.prog) wx 22 _ (some ⟨b, off, none⟩) l.length c 0 0 Try.underlying22
    simpa using this
  clear hcell hx
  go_enter Try.func24, Try.ntmps24
  go_wp2_with (at_builtin; refine wpList_append_own _ rfl (.tmp 5) (.tmp 6) 22 rfl w.heap.size 40 i0 _ 3 24 Try.underlying22 hi0 hz0 hz1 hz2 rfl (by omega) _ _ _ rfl HO.out ⟨b, off, none⟩ l.length c (flatN l) rfl HF.out HC.out H1.out (by simp only [maxLen]; omega) (by omega) (by simp) ?_; intro v1 w4 hown hg1 _)
  go_ret
  refine ⟨v1, rfl, ?_, ((Gr.refl w).alloc _).grown hg1 (fun k hk => (HO.out.lt k hk).1)⟩
  rw [Nat.zero_add, List.nil_append] at hown
  exact hown

theorem lit_node (w : World) (k a b : Int) (B : Nat) (hB : w.heap.size = B) : RdN (w.alloc (.cells #[.int .i64 k, .int .i64 a, .int .i64 b] 40)) (.slice (some ⟨B, 0, none⟩) 1 1) [(k, a, b)] := by
  subst hB
  exact RdN.own (base := w.heap.size) (e := 40) (l := [(k, a, b)]) (World.ownsRow_lit w _ 1 (Nat.le_refl _) (by simp [maxLen]) rfl)
theorem newK (w : World) (cs : List Value) (t : TypeId) : ∀ j u, cs[j]? = some u → (w.alloc (.cells cs.toArray t)).cell? ((⟨w.heap.size, 0, none⟩ : Addr).add j) = some u := by
  intro j u hu
  have ea : (⟨w.heap.size, 0, none⟩ : Addr).add j = ⟨w.heap.size, j, none⟩ := by unfold Addr.add; by_cases h : j = 0 <;> simp [h]
  rw [ea]
  have hb := heap_alloc_new w (.cells cs.toArray t)
  rw [cell_of_row _ _ _ _ _ _ hb]
  simpa using hu
end Go.Proofs.Ytbodadddcbbjeaa
