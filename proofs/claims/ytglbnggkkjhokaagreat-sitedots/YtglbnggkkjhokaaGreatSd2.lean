/- Joined: KnJ, KnD, KnE, Reg, KnF, Reg2, KnK, KnL, KnM, KnN, KnT, KmA, PtB, KmB, KmC, KmD, KmE, OpenA, OpenK, KmF, KmG, SpanD, CubeA, SetB. -/
import Derived.Test.YtglbnggkkjhokaaGreatSd1
import Derived.Deep.LoopGhost
import Derived.Laws.ResultCell
import Derived.Deep.RegionHeld3
import Derived.Laws.Rows
import Derived.StillTailTactics
import Derived.Test.YtglbnggkkjhokaaGreatProg
import Derived.Deep.SlicePairs
import Derived.ProofKit
import Derived.KernelRfl
import Derived.Lib.BitFns
import Derived.Laws.AppendOwnNone
import Derived.WalkKit
import Derived.WalkSpells
import Derived.WalkLawsBesides
import Derived.Deep.QuietTactic
import Derived.BigQuiet
import Derived.Lib.Hide
set_option linter.unusedVariables false
set_option linter.unusedSimpArgs false
set_option maxHeartbeats 8000000
set_option maxRecDepth 100000
/- know.build: the form of the dots up to some counts and of those in a list. -/
namespace Rm
open Go Go.RowKit
theorem R1.own {w : World} {base : Nat} {e : TypeId} {v : Value} {l : List Nat} (h : w.ownsRow base e 1 v l.length (flatI l)) : R1 w v (ints l) := by
 obtain ⟨hl, ⟨rfl, h0⟩ | ⟨g, cap, cur, rfl, _, hg, hn, _, hs, ht⟩⟩ := h
 ·obtain rfl : l = [] := List.eq_nil_of_length_eq_zero h0
  exact R1.nil w
 ·refine ⟨_, cap, by rw [ints_len], by rw [ints_len]; exact hn, fun _ => ⟨g, 0, rfl, (Array.getElem?_eq_some_iff.1 hg).1, fun i x hx => ?_⟩⟩
  simp only [ints, List.getElem?_map, Option.map_eq_some_iff] at hx
  obtain ⟨y, hy, rfl⟩ := hx
  have hi : i < l.length := (List.getElem?_eq_some_iff.1 hy).1
  have h1 : (cur.toList.take (l.length * 1))[i]? = (flatI l)[i]? := by rw [ht]
  rw [List.getElem?_take_of_lt (by omega)] at h1
  simp only [flatI, List.getElem?_map, hy, Option.map_some] at h1
  simp only [World.cell?, hg, Nat.zero_add]
  simpa using h1
theorem RdC.own {s : Nat} {w : World} {base : Nat} {e : TypeId} {v : Value} {n : Nat} {xs : List Value} (h : w.ownsRow base e s v n xs) (h1 : ∀ u ∈ xs, u.oneCell' = true) : RdC s w v n xs := by
 obtain ⟨hl, ⟨rfl, h0⟩ | ⟨g, cap, cur, rfl, _, hg, hn, _, hs, ht⟩⟩ := h
 ·exact ⟨hl, h1, .inl ⟨rfl, h0⟩⟩
 ·refine ⟨hl, h1, .inr ⟨_, cap, rfl, hn, fun _ => (Array.getElem?_eq_some_iff.1 hg).1, fun j u hj => ?_⟩⟩
  have hj' : j < n * s := by rw [← hl]; exact (List.getElem?_eq_some_iff.1 hj).1
  have e1 : (cur.toList.take (n * s))[j]? = xs[j]? := by rw [ht]
  rw [List.getElem?_take_of_lt hj', hj] at e1
  rw [adn, Nat.zero_add]
  simp only [World.cell?, hg]
  simpa using e1
theorem ddT_len (l : List (Nat × Nat)) : ∀ k, (ddT l k).length ≤ k
 | 0 => Nat.le_refl _
 | k + 1 => by
  have ih := ddT_len l k
  show (match l[k]? with | none => ddT l k | some d => if 0 < k ∧ l[k - 1]? = some d then ddT l k else ddT l k ++ [d]).length ≤ k + 1
  split
  ·omega
  ·split
   ·omega
   ·simp; omega
theorem ddT_all_mem (l : List (Nat × Nat)) (d : Nat × Nat) : d ∈ ddT l l.length ↔ d ∈ l := by
 rw [ddT_mem (Nat.le_refl _)]
 constructor
 ·rintro ⟨j, _, h⟩; exact List.mem_of_getElem? h
 ·intro h
  obtain ⟨j, hj⟩ := List.getElem?_of_mem h
  exact ⟨j, (List.getElem?_eq_some_iff.1 hj).1, hj⟩
theorem take_snoc {α : Type} {l : List α} {i : Nat} {x : α} (h : l[i]? = some x) : l.take (i + 1) = l.take i ++ [x] := by
 rw [List.take_add_one, h]; rfl
theorem sorted_before {l : List (Nat × Nat)} (hs : l.Pairwise ltD) {i : Nat} {d : Nat × Nat} (h : l[i]? = some d) : ∀ x ∈ l.take i, ltD x d := by
 intro x hx
 obtain ⟨j, hj⟩ := List.getElem?_of_mem hx
 have hji : j < i := by have := (List.getElem?_eq_some_iff.1 hj).1; simp at this; omega
 rw [List.getElem?_take_of_lt hji] at hj
 obtain ⟨h1, e1⟩ := List.getElem?_eq_some_iff.1 hj
 obtain ⟨h2, e2⟩ := List.getElem?_eq_some_iff.1 h
 have := List.pairwise_iff_getElem.1 hs j i h1 h2 hji
 rw [e1, e2] at this
 exact this
theorem cArr_setC (v : List Nat) (s n : Nat) (hs : s < 5) : (cArr v).setIfInBounds s (.int .i64 (n : Nat)) = cArr (setC v s n) := by
 match s, hs with
 | 0, _ => rfl
 | 1, _ => rfl
 | 2, _ => rfl
 | 3, _ => rfl
 | 4, _ => rfl
end Rm
namespace Go.Proofs.YtglbnggkkjhokaaGreat
open Go.RowKit Rm
def KnO (base : Nat) (w : World) (k : Value) (v : List Nat) (m : List (Nat × Nat)) : Prop :=
  ∃ vv mv, k = .agg #[vv, mv] ∧ w.ownsRow base 3 1 vv v.length (flatI v) ∧ w.ownsRow base 51 2 mv m.length (flat (pairs m))
theorem KnO.rd {base : Nat} {w : World} {k : Value} {v : List Nat} {m : List (Nat × Nat)} (h : KnO base w k v m) : KnR w k (ints v) (pairs m) := by
 obtain ⟨vv, mv, rfl, h1, h2⟩ := h
 have h2' : w.ownsRow base 51 2 mv (pairs m).length (flat (pairs m)) := by rw [pairs_len]; exact h2
 exact ⟨vv, mv, rfl, R1.own h1, Rd2.own h2', RdC.own h2' (flat_one _)⟩
theorem kown_gr {w w' : World} {base : Nat} {e : TypeId} {s n : Nat} {v : Value} {xs : List Value} (h : w.ownsRow base e s v n xs) (g : Gr w w') : w'.ownsRow base e s v n xs := by
 obtain ⟨h1, h2 | ⟨b, cap, cur, e, h3, hg, h4⟩⟩ := h
 ·exact ⟨h1, .inl h2⟩
 ·exact ⟨h1, .inr ⟨b, cap, cur, e, h3, (Below.block g b (Array.getElem?_eq_some_iff.1 hg).1).trans hg, h4⟩⟩
theorem KnO.gr {base : Nat} {w w' : World} {k : Value} {v : List Nat} {m : List (Nat × Nat)} (h : KnO base w k v m) (g : Gr w w') : KnO base w' k v m := by
 obtain ⟨vv, mv, e, h1, h2⟩ := h
 exact ⟨vv, mv, e, kown_gr h1 g, kown_gr h2 g⟩
theorem KnO.less {base base' : Nat} {w : World} {k : Value} {v : List Nat} {m : List (Nat × Nat)} (h : KnO base w k v m) (hb : base' ≤ base) : KnO base' w k v m := by
 obtain ⟨vv, mv, e, h1, h2⟩ := h
 exact ⟨vv, mv, e, own_less h1 hb, own_less h2 hb⟩
def frmK (base : Nat) (w : World) (e : Ending) (D : DS) : Prop :=
  ∃ k r, e = .returned (.tuple #[k, .int .i64 r]) ∧ (((formM D).length ≤ 60 ∧ r = 0 ∧ KnO base w k (formV D) (formM D)) ∨ (60 < (formM D).length ∧ r = 2 ∧ KnO base w k [] []))
theorem frmK.less {base base' : Nat} {w : World} {e : Ending} {D : DS} (h : frmK base w e D) (hb : base' ≤ base) : frmK base' w e D := by
 obtain ⟨k, r, h1, ⟨h2, h3, h4⟩ | ⟨h2, h3, h4⟩⟩ := h
 ·exact ⟨k, r, h1, .inl ⟨h2, h3, h4.less hb⟩⟩
 ·exact ⟨k, r, h1, .inr ⟨h2, h3, h4.less hb⟩⟩
theorem frmK.congr {base : Nat} {w : World} {e : Ending} {D E : DS} (h : frmK base w e D) (hE : EqD D E) : frmK base w e E := by
 obtain ⟨h1, h2⟩ := form_congr hE
 unfold frmK
 rw [← h1, ← h2]
 exact h
theorem know_zero : (Tryz.prog.info? 75).bind (·.zero) = some (.agg #[.slice none 0 0, .slice none 0 0]) := by kernel_rfl
theorem load_know (w : World) (g : Nat) (x y : Value) (h0 : w.cell? ⟨g, 0, none⟩ = some x) (h1 : w.cell? ⟨g, 1, none⟩ = some y) : (loadVar 75 ⟨g, 0, none⟩).run Tryz.prog w = .ok (.agg #[x, y]) w := by
 simp [go_sem, h0, h1]
theorem res_know {fn : Func} {p u : Tmp} (h : fn.results = #[.cell p 75, .tmp u]) (tmps : Array Value) (w : World) (g : Nat) (x y r : Value) (hp : tmps.getD p undef = .pointer (some ⟨g, 0, none⟩)) (hu : tmps.getD u undef = r) (h0 : w.cell? ⟨g, 0, none⟩ = some x) (h1 : w.cell? ⟨g, 1, none⟩ = some y) :
  (results fn tmps).run Tryz.prog w = .ok (.tuple #[.agg #[x, y], r]) w := by
 have hp' : tmps[p]?.getD undef = .pointer (some ⟨g, 0, none⟩) := by simpa using hp
 have hu' : tmps[u]?.getD undef = r := by simpa using hu
 simp [results, h, hp', hu', asAddr, load_know w g x y h0 h1]
theorem put2 {w : World} {g : Nat} {o0 o1 : Value} (h0 : w.cell? ⟨g, 0, none⟩ = some o0) (h1 : w.cell? ⟨g, 1, none⟩ = some o1) (x y : Value) :
    ((w.setCell ⟨g, 0, none⟩ x).setCell ⟨g, 1, none⟩ y).cell? ⟨g, 0, none⟩ = some x ∧ ((w.setCell ⟨g, 0, none⟩ x).setCell ⟨g, 1, none⟩ y).cell? ⟨g, 1, none⟩ = some y := by
  constructor <;> simp [go_sem, h0, h1]
def BldAt (w4 : World) (g0 : Nat) (v0 : List Nat) (pre : List (Nat × Nat)) (mv : Value) (v' : List Nat) (m : List (Nat × Nat)) (wr : World) : Prop :=
  Below g0 w4 wr ∧ wr.heap[g0]? = some (.cells (cArr v') 237 (0, 0)) ∧ wr.heap[g0 + 1]? = some (.cells #[.slice none 0 0, .slice none 0 0] 75 (0, 0)) ∧ wr.ownsRow (g0 + 2) 51 2 mv m.length (flat (pairs m)) ∧ BInv v0 pre v' m
theorem BldAt.size {w4 wr : World} {g0 : Nat} {v0 v' : List Nat} {pre m : List (Nat × Nat)} {mv : Value} (h : BldAt w4 g0 v0 pre mv v' m wr) : g0 + 2 ≤ wr.heap.size := by
 have := (Array.getElem?_eq_some_iff.1 h.2.2.1).1
 omega
theorem BldAt.alloc {w4 wr : World} {g0 : Nat} {v0 v' : List Nat} {pre m : List (Nat × Nat)} {mv : Value} (h : BldAt w4 g0 v0 pre mv v' m wr) (o : Obj) : BldAt w4 g0 v0 pre mv v' m (wr.alloc o) := by
 have hs := h.size
 obtain ⟨h1, h2, h3, h4, h5⟩ := h
 exact ⟨h1.alloc (by omega) o, (Below.heap_alloc _ _ _ (by omega)).trans h2, (Below.heap_alloc _ _ _ (by omega)).trans h3, h4.alloc o, h5⟩
theorem BldAt.inv {w4 wr : World} {g0 : Nat} {v0 v' : List Nat} {pre pre' m : List (Nat × Nat)} {mv : Value} (h : BldAt w4 g0 v0 pre mv v' m wr) (k : BInv v0 pre' v' m) : BldAt w4 g0 v0 pre' mv v' m wr := ⟨h.1, h.2.1, h.2.2.1, h.2.2.2.1, k⟩
theorem BldAt.up {w4 wr : World} {g0 : Nat} {v0 v' : List Nat} {pre pre' m : List (Nat × Nat)} {mv : Value} {s n : Nat} (h : BldAt w4 g0 v0 pre mv v' m wr) (hs : s < 5) (k : BInv v0 pre' (setC v' s n) m) : BldAt w4 g0 v0 pre' mv (setC v' s n) m (wr.setCell ⟨g0, s, none⟩ (.int .i64 (n : Nat))) := by
 obtain ⟨h1, h2, h3, h4, h5⟩ := h
 refine ⟨h1.setCell (Nat.le_refl _) _, ?_, (Below.heap_setCell _ _ _ _ (by simp)).trans h3, ?_, k⟩
 ·rw [hsc h2, cArr_setC v' s n hs]
 ·refine h4.kept (gset wr g0 s _) ?_
  cases e : mv.ownBlock with
  | none => exact .inl rfl
  | some b => exact .inr (fun e' => by have := (h4.lt b e).1; have := Option.some.inj e'; omega)
theorem BldAt.more {w4 wr w5 : World} {g0 : Nat} {v0 v' : List Nat} {pre pre' m m' : List (Nat × Nat)} {mv mv' : Value} (h : BldAt w4 g0 v0 pre mv v' m wr) (hg : wr.grownBy w5 mv.ownBlock) (ho : w5.ownsRow (g0 + 2) 51 2 mv' m'.length (flat (pairs m'))) (k : BInv v0 pre' v' m') : BldAt w4 g0 v0 pre' mv' v' m' w5 := by
 have hs := h.size
 obtain ⟨h1, h2, h3, h4, h5⟩ := h
 have hb : ∀ b, mv.ownBlock = some b → g0 + 2 ≤ b := fun b e => (h4.lt b e).1
 refine ⟨h1.grown hg (by omega) (fun b e => by have := hb b e; omega), ?_, ?_, ho, k⟩
 ·exact (hg.block g0 (by omega) (fun e => by have := hb _ e.symm; omega)).trans h2
 ·exact (hg.block (g0 + 1) (by omega) (fun e => by have := hb _ e.symm; omega)).trans h3
theorem build_any (v : List Nat) (L : List (Nat × Nat)) (lv : Value) (w : World) (base : Nat) (hv : ∀ s, s < 5 → cv v s ≤ 1000) (hL : ∀ d ∈ L, inR d.1 d.2) (hlen : L.length ≤ 1000)
  (ho : w.ownsRow base 51 2 lv L.length (flat (pairs L))) (hbase : base ≤ w.heap.size) :
  Calls Tryz.prog 173 #[.agg (cArr v), lv] w fun e w' => frmK w.heap.size w' e (upD v L) ∧ Below base w w' := by
 obtain ⟨i0, hi0, hz0, hz1, hz2⟩ := info_parts ccd_info
 have HS0 := Lib.hid (sort_own L lv)
 have HC0 := Lib.hid (fun l => compact_own l lv)
 have HT0 := Lib.hid trim_any
 have hlv : ∀ b, lv.ownBlock = some b → base ≤ b ∧ b < w.heap.size := ho.lt
 have A0 : Hid (((w.alloc (.cells (cArr v) 237)).alloc (.cells #[.slice none 0 0, .slice none 0 0] 75)).heap[w.heap.size]? = some (.cells (cArr v) 237 (0, 0)) ∧ ((w.alloc (.cells (cArr v) 237)).alloc (.cells #[.slice none 0 0, .slice none 0 0] 75)).heap[w.heap.size + 1]? = some (.cells #[.slice none 0 0, .slice none 0 0] 75 (0, 0))) := ⟨(al_old _ _ _ (by simp)).trans (al_new _ _ _ rfl), al_new _ _ _ (by simp)⟩
 have G0 : Hid (Below w.heap.size w ((w.alloc (.cells (cArr v) 237)).alloc (.cells #[.slice none 0 0, .slice none 0 0] 75))) := ((Gr.refl w).alloc _).alloc _
 have O0 := Lib.hid ((ho.alloc (.cells (cArr v) 237)).alloc (.cells #[.slice none 0 0, .slice none 0 0] 75))
 have HLV := Lib.hid hlv
 have HL := Lib.hid hL
 obtain ⟨la, lc, hle, hlc⟩ := own_formD ho
 clear ho hL hlv
 have HLE := Lib.hid hle
 subst hle
 go_enter Tryz.func173, Tryz.ntmps173
 go_wp2_with (first
  | (refine Go.Great.wpList_allocTo rfl _ rfl _ _ (run_alloc_zero know_zero _ _ rfl _) ?_)
  | fail)
 generalize ((w.alloc (.cells (cArr v) 237)).alloc (.cells #[.slice none 0 0, .slice none 0 0] 75)) = w2 at *
 go_wp2_with (go_at_call 183; refine (HS0.out w2 base hlen O0.out).mono ?_; rintro e w3 ⟨rfl, l', hp, hs, ho3, hg3⟩; have HO3 := Lib.hid ho3; have HG3 := Lib.hid hg3; have HP := Lib.hid hp; have HSo := Lib.hid hs; have hll : l'.length = L.length := hp.length_eq; clear ho3 hg3 hp hs HS0 O0)
 have HDM : Hid (∀ d, d ∈ ddT l' l'.length ↔ d ∈ L) := fun d => by rw [ddT_all_mem]; exact HP.out.mem_iff
 have HDS : Hid ((ddT l' l'.length).Pairwise ltD) := ddT_sort HSo.out (Nat.le_refl _)
 have hdl : (ddT l' l'.length).length ≤ 1000 := Nat.le_trans (ddT_len _ _) (by omega)
 have HC1 := Lib.hid (HC0.out l' w3 base (by omega) HO3.out)
 generalize ddT l' l'.length = dd at *
 clear HC0 HSo
 go_wp2_with (go_at_call 185; refine HC1.out.mono ?_; rintro e w4 ⟨u, rfl, hub, ho4, hg4⟩; obtain ⟨ua, uc, rfl, huc⟩ := own_formD ho4; have HO4 := Lib.hid ho4; have HG4 := Lib.hid hg4; have HUB := Lib.hid hub; clear ho4 hg4 hub HC1)
 have G4 : Hid (Below base w w4) := (((Below.mono G0.out hbase).grown HG3.out (Nat.le_trans hbase G0.out.size) (fun b e => (HLV.out b e).1)).grown HG4.out (Nat.le_trans hbase (Nat.le_trans G0.out.size HG3.out.size)) (fun b e => (HLV.out b e).1))
 have hsz2 : w.heap.size + 2 ≤ w2.heap.size := by have := (Array.getElem?_eq_some_iff.1 A0.out.2).1; omega
 have A4 : Hid (BldAt w4 w.heap.size v (dd.take 0) (.slice none 0 0) v [] w4) := by
  refine ⟨Below.refl _ _, ?_, ?_, World.ownsRow_nil _ _ _ _, BInv.start v hv⟩
  ·refine (HG4.out.block _ (Nat.lt_of_lt_of_le (by omega) HG3.out.size) (fun e => ?_)).trans ((HG3.out.block _ (by omega) (fun e => ?_)).trans A0.out.1)
   ·have := (HLV.out _ e.symm).2; omega
   ·have := (HLV.out _ e.symm).2; omega
  ·refine (HG4.out.block _ (Nat.lt_of_lt_of_le (by omega) HG3.out.size) (fun e => ?_)).trans ((HG3.out.block _ (by omega) (fun e => ?_)).trans A0.out.2)
   ·have := (HLV.out _ e.symm).2; omega
   ·have := (HLV.out _ e.symm).2; omega
 have HU : Hid (∀ (i s c : Nat), dd[i]? = some (s, c) → ∃ g, ua = some ⟨g, 0, none⟩ ∧ ∀ wr, Below w.heap.size w4 wr → wr.cell? ⟨g, i * 2, none⟩ = some (.int .i64 (s : Int)) ∧ wr.cell? ⟨g, i * 2 + 1, none⟩ = some (.int .i64 (c : Int))) := by
  intro i s c hd
  obtain ⟨hxl, ⟨e1, hn⟩ | ⟨g, cap, cur, e1, hbg, hg, hnc, hcm, hcs, htake⟩⟩ := HO4.out
  ·rw [List.eq_nil_of_length_eq_zero hn] at hd; simp at hd
  ·injection e1 with ea eb ec
   subst ea ec
   refine ⟨g, rfl, fun wr hb => ?_⟩
   have hgl : g < w.heap.size := (HLV.out g (by rw [← HUB.out]; rfl)).2
   have hr := RowD.cell (e := 51) (w := w4) (g := g) (cap := uc) (c := dd) ⟨hnc, cur, hg, hcs, htake⟩ hd
   exact ⟨(Below.cell hb hgl).trans hr.1, (Below.cell hb hgl).trans hr.2.1⟩
 have HF : Hid (∀ v' m, BInv v (dd.take dd.length) v' m → formV (upD v L) = trimL (five v') ∧ formM (upD v L) = m) := by
  intro v' m hb
  rw [List.take_length] at hb
  have e : upD v L = upD v dd := upD_congr fun d => (HDM.out d).symm
  rw [e]; exact hb.form
 have hdlI : (dd.length : Int) ≤ 1000 := by omega
 clear A0 G0 HG3 HG4 HO3 HO4 HUB HP hll hlc huc HLV HLE
 go_wp2
 generalize hg0 : w.heap.size = g0 at *
 go_loopg [6, 15] dd.length (fun gh mv ix wr => ∃ (i : Nat) (v' : List Nat) (m : List (Nat × Nat)), i ≤ dd.length ∧ dd.length - i ≤ gh ∧ ix = .int .i64 (i : Int) ∧ BldAt w4 g0 v (dd.take i) mv v' m wr)
 case atStart => exact ⟨0, v, [], by omega, by omega, rfl, A4.out⟩
 case round =>
  clear A4
  obtain ⟨i, v', m, hi, hgh, rfl, hat⟩ := hrel
  have HAt := Lib.hid hat
  obtain ⟨ma, mc, hme, hmc⟩ := own_formD hat.2.2.2.1
  subst hme
  have hml : m.length ≤ 1000 := by have := hat.2.2.2.2.len; simp at this; omega
  have hmlI : (m.length : Int) ≤ 1000 := by omega
  by_cases hil : i < dd.length
  ·obtain ⟨⟨s, c⟩, hd⟩ : ∃ d, dd[i]? = some d := ⟨_, List.getElem?_eq_getElem hil⟩
   obtain ⟨g, rfl, hcell⟩ := HU.out i s c hd
   obtain ⟨q1, q2⟩ := hcell wr hat.1
   have hr : Hid (inR s c) := HL.out _ ((HDM.out _).1 (List.mem_of_getElem? hd))
   have hs5 : s < 5 := hr.out.1
   have hc1000 : c ≤ 1000 := hr.out.2.2
   have hiI : (i : Int) < (dd.length : Int) := by omega
   have HB := Lib.hid (sorted_before HDS.out hd)
   have HTk := Lib.hid (take_snoc hd)
   have hcv := cell_cArr hat.2.1 hs5
   have hfz : wr.frozen? ⟨g0, s, none⟩ = false := by simp [World.frozen?, hat.2.1]
   have hvl := hat.2.2.2.2.le s hs5
   have hsz := hat.size
   have hg0lt : g0 < wr.heap.size := by omega
   have hg0ne : ¬ g0 = wr.heap.size := by omega
   have HI := Lib.hid hat.2.2.2.2
   have hs5I : (s : Int) < 5 := by omega
   have hcI : (c : Int) ≤ 1000 := by omega
   clear hat hcell hd hsz
   generalize hn : cv v' s = n at *
   have HN := Lib.hid hn
   clear hn
   have hnI : (n : Int) ≤ 1000 := by omega
   by_cases hA : c = n + 1
   ·subst hA
    have HX : Hid (BldAt w4 g0 v (dd.take (i + 1)) (.slice ma m.length mc) (setC v' s (n + 1)) m ((wr.setCell ⟨g0, s, none⟩ (.int .i64 ((n + 1 : Nat) : Int))).alloc (.cells #[.int .i64 (s : Int), .int .i64 ((n + 1 : Nat) : Int)] 51))) := by
     rw [HTk.out]
     exact (HAt.out.up hs5 (HI.out.up HB.out hr.out (by rw [HN.out]))).alloc _
    go_wp2
    go_roundg (dd.length - (i + 1))
    case measure => omega
    case rel => exact ⟨i + 1, _, m, by omega, Nat.le_refl _, by go_num, HX.out⟩
   ·by_cases hB : n < c
    ·have hAI : ¬ (c : Int) = (n : Int) + 1 := by omega
     have hBI : (n : Int) < (c : Int) := by omega
     have HI2 := Lib.hid (HI.out.more HB.out hr.out (by rw [HN.out]; omega))
     have HA2 := Lib.hid ((HAt.out.alloc (.cells #[.int .i64 (s : Int), .int .i64 (c : Int)] 51)).alloc (.cells #[.int .i64 (s : Int), .int .i64 (c : Int)] 51))
     have HFl : Hid (flat (pairs m) ++ [.int .i64 (s : Int), .int .i64 (c : Int)] = flat (pairs (m ++ [(s, c)]))) := by show _ = _; simp [pairs, flat]
     go_wp2_with (at_builtin; refine wpList_append_own _ rfl (.tmp 38) (.tmp 40) 73 rfl (g0 + 2) 51 i0 _ 2 16 Tryz.underlying73 hi0 hz0 hz1 hz2 rfl (by omega) _ _ _ rfl HA2.out.2.2.2.1 ⟨wr.heap.size + 1, 0, none⟩ 1 1 [.int .i64 (s : Int), .int .i64 (c : Int)] rfl rfl (by have := new2 (wr.alloc (.cells #[.int .i64 (s : Int), .int .i64 (c : Int)] 51)) s c 51; rwa [World.size_alloc] at this) (one2 _ _) (by simp only [maxLen]; omega) (by omega) HA2.out.size ?_; intro v1 w5 hown hg1 _)
     have HX : Hid (BldAt w4 g0 v (dd.take (i + 1)) v1 v' (m ++ [(s, c)]) w5) := by
      rw [HTk.out]
      refine HA2.out.more hg1 ?_ HI2.out
      rw [← HFl.out, List.length_append]
      exact hown
     go_roundg (dd.length - (i + 1))
     case measure => omega
     case rel => exact ⟨i + 1, v', _, by omega, Nat.le_refl _, by go_num, HX.out⟩
    ·have HX : Hid (BldAt w4 g0 v (dd.take (i + 1)) (.slice ma m.length mc) v' m (wr.alloc (.cells #[.int .i64 (s : Int), .int .i64 (c : Int)] 51))) := by
      rw [HTk.out]
      exact (HAt.out.alloc _).inv (HI.out.old hr.out (by rw [HN.out]; omega))
     have hAI : ¬ (c : Int) = (n : Int) + 1 := by omega
     have hBI : ¬ (n : Int) < (c : Int) := by omega
     go_wp2
     go_roundg (dd.length - (i + 1))
     case measure => omega
     case rel => exact ⟨i + 1, v', m, by omega, Nat.le_refl _, by go_num, HX.out⟩
  ·obtain rfl : i = dd.length := by omega
   obtain ⟨f1, f2⟩ := HF.out v' m hat.2.2.2.2
   have hk0 : wr.cell? ⟨g0 + 1, 0, none⟩ = some (.slice none 0 0) := by simp [World.cell?, hat.2.2.1]
   have hk1 : wr.cell? ⟨g0 + 1, 1, none⟩ = some (.slice none 0 0) := by simp [World.cell?, hat.2.2.1]
   have hf0 : wr.frozen? ⟨g0 + 1, 0, none⟩ = false := by simp [World.frozen?, hat.2.2.1]
   have hf1 : wr.frozen? ⟨g0 + 1, 1, none⟩ = false := by simp [World.frozen?, hat.2.2.1]
   have HB1 := Lib.hid hat.2.1
   have HV := Lib.hid hat.2.2.2.2.le
   have HGw : Hid (Below base w wr) := Below.trans G4.out (Below.mono hat.1 (by omega))
   have hsz := hat.size
   have hgb : base ≤ g0 + 1 := by omega
   have hgl1 : g0 + 1 < wr.heap.size := by omega
   have HO := Lib.hid hat.2.2.2.1
   have HF1 := Lib.hid f1
   have HF2 := Lib.hid f2
   clear hat f1 f2
   by_cases h60 : 60 < m.length
   ·have h60I : (60 : Int) < (m.length : Int) := by omega
    go_wp2
    obtain ⟨p0, p1⟩ := put2 hk0 hk1 (.slice none 0 0) (.slice none 0 0)
    have HW := Lib.hid ((HGw.out.setCell (p := ⟨g0 + 1, 0, none⟩) hgb (.slice none 0 0)).setCell (p := ⟨g0 + 1, 1, none⟩) hgb (.slice none 0 0))
    generalize (wr.setCell ⟨g0 + 1, 0, none⟩ (.slice none 0 0)).setCell ⟨g0 + 1, 1, none⟩ (.slice none 0 0) = w7 at *
    refine bodyPost_ret (v := .tuple #[.agg #[.slice none 0 0, .slice none 0 0], .int .i64 2]) (res_know Tryz.results173 _ _ (g0 + 1) _ _ _ rfl rfl p0 p1) rfl ⟨?_, HW.out⟩
    exact ⟨_, 2, rfl, .inr ⟨by rw [HF2.out]; exact h60, rfl, _, _, rfl, World.ownsRow_nil _ _ _ _, World.ownsRow_nil _ _ _ _⟩⟩
   ·have h60I : ¬ (60 : Int) < (m.length : Int) := by omega
    have f3 := Lib.hid (counts_cArr v')
    have HT := Lib.hid (HT0.out v' wr HV.out)
    clear HT0 HAt HV
    generalize cArr v' = A at *
    go_wp2_with (refine Go.wpList_load_row rfl 237 (.tmp 2) rfl g0 rfl 237 A (0, 0) _ HB1.out Tryz.underlying237 rfl f3.out ?_)
    refine HT.out.mono ?_
    rintro e w6 ⟨u, rfl, ho6, g6⟩
    obtain ⟨xa, xc, hux, -⟩ := own_formD ho6
    subst hux
    have hk60 := (g6.cells.1 (g0 + 1) 0 hgl1).trans hk0
    have hk61 := (g6.cells.1 (g0 + 1) 1 hgl1).trans hk1
    have hf60 := (g6.cells.2 (g0 + 1) 0 hgl1).trans hf0
    have hf61 := (g6.cells.2 (g0 + 1) 1 hgl1).trans hf1
    have hgl6 := Nat.lt_of_lt_of_le hgl1 g6.le
    have HO6 := Lib.hid ho6
    have G6 := Lib.hid g6
    clear ho6 g6 hk0 hk1 hf0 hf1 HB1 f3 HT
    generalize hTL : trimL (five v') = TL at *
    go_wp2_with fail
    obtain ⟨p0, p1⟩ := put2 hk60 hk61 (.slice xa TL.length xc) (.slice ma m.length mc)
    have HW := Lib.hid (((Below.trans HGw.out (Below.mono G6.out (by have := HGw.out.size; omega))).setCell (p := ⟨g0 + 1, 0, none⟩) hgb (.slice xa TL.length xc)).setCell (p := ⟨g0 + 1, 1, none⟩) hgb (.slice ma m.length mc))
    have HK1 : Hid (((w6.setCell ⟨g0 + 1, 0, none⟩ (.slice xa TL.length xc)).setCell ⟨g0 + 1, 1, none⟩ (.slice ma m.length mc)).ownsRow g0 3 1 (.slice xa TL.length xc) TL.length (flatI TL)) := by
     have h1 : ∀ b, (Value.slice xa TL.length xc).ownBlock = some b → g0 + 1 < b := fun b e => Nat.lt_of_lt_of_le hgl1 (HO6.out.lt b e).1
     have h2 : (Value.slice xa TL.length xc).ownBlock = none ∨ (Value.slice xa TL.length xc).ownBlock ≠ some (g0 + 1) := by
      cases e : (Value.slice xa TL.length xc).ownBlock with
      | none => exact .inl rfl
      | some b => exact .inr (fun e' => by have := h1 b e; have := Option.some.inj e'; omega)
     exact own_less ((HO6.out.kept (gset w6 (g0 + 1) 0 (.slice xa TL.length xc)) h2).kept (gset _ (g0 + 1) 1 _) h2) (by omega)
    have HK2 : Hid (((w6.setCell ⟨g0 + 1, 0, none⟩ (.slice xa TL.length xc)).setCell ⟨g0 + 1, 1, none⟩ (.slice ma m.length mc)).ownsRow g0 51 2 (.slice ma m.length mc) m.length (flat (pairs m))) := by
     have h1 : ∀ b, (Value.slice ma m.length mc).ownBlock = some b → g0 + 1 < b := fun b e => (HO.out.lt b e).1
     have h2 : (Value.slice ma m.length mc).ownBlock = none ∨ (Value.slice ma m.length mc).ownBlock ≠ some (g0 + 1) := by
      cases e : (Value.slice ma m.length mc).ownBlock with
      | none => exact .inl rfl
      | some b => exact .inr (fun e' => by have := h1 b e; have := Option.some.inj e'; omega)
     exact own_less (((kown_gr HO.out G6.out).kept (gset w6 (g0 + 1) 0 (.slice xa TL.length xc)) h2).kept (gset _ (g0 + 1) 1 _) h2) (by omega)
    generalize (w6.setCell ⟨g0 + 1, 0, none⟩ (.slice xa TL.length xc)).setCell ⟨g0 + 1, 1, none⟩ (.slice ma m.length mc) = w7 at *
    refine bodyPost_ret (v := .tuple #[.agg #[(.slice xa TL.length xc), .slice ma m.length mc], .int .i64 0]) (res_know Tryz.results173 _ _ (g0 + 1) _ _ _ rfl rfl p0 p1) rfl ⟨?_, HW.out⟩
    refine ⟨_, 0, rfl, .inl ⟨by rw [HF2.out]; omega, rfl, _, _, rfl, ?_, ?_⟩⟩
    ·rw [hg0, HF1.out]; exact HK1.out
    ·rw [hg0, HF2.out]; exact HK2.out
end Go.Proofs.YtglbnggkkjhokaaGreat
/- know.Check, checkBoth, Count. -/
namespace Go.Proofs.YtglbnggkkjhokaaGreat
open Go.RowKit Rm
theorem chkK_large {V : List Int} {M : List (Int × Int)} (h : 5 < V.length ∨ 60 < M.length) : chkK V M = 2 := by unfold chkK; rw [if_pos h]
theorem chkK_vec {V : List Int} {M : List (Int × Int)} (h : ¬ (5 < V.length ∨ 60 < M.length)) (hv : chkV V ≠ 0) : chkK V M = chkV V := by unfold chkK; rw [if_neg h, if_pos hv]
theorem chkK_more {V : List Int} {M : List (Int × Int)} (h : ¬ (5 < V.length ∨ 60 < M.length)) (hv : chkV V = 0) : chkK V M = chkM (natsI V) M := by unfold chkK; rw [if_neg h, if_neg (by simp [hv])]
theorem kcheck_any (k : Value) (V : List Int) (M : List (Int × Int)) (w : World) (hk : KnR w k V M) :
  Calls Tryz.prog 131 #[k] w fun e w' => e = .returned (.int .i64 (chkK V M)) ∧ Gr w w' := by
 obtain ⟨vv, mv, rfl, r1, r2, r3⟩ := id hk
 obtain ⟨va, vc, rfl, hvc, hv⟩ := id r1
 obtain ⟨ma, mc, rfl, hmc, hm⟩ := id r2
 clear hv hm
 have HK := Lib.hid hk
 have R1h := Lib.hid r1
 have R2h := Lib.hid r2
 clear hk r1 r2 r3
 by_cases h5 : 5 < V.length
 ·have h5' : (5 : Int) < (V.length : Int) := by omega
  have HR := Lib.hid (chkK_large (M := M) (.inl h5))
  go_enter Tryz.func131, Tryz.ntmps131
  go_wp2
  go_ret
  exact ⟨by rw [HR.out]; rfl, (Gr.refl _).alloc _⟩
 ·have h5' : decide ((5 : Int) < (V.length : Int)) = false := by simp; omega
  have h5'' : (V.length : Int) ≤ 5 := by omega
  by_cases h6 : 60 < M.length
  ·have h6' : (60 : Int) < (M.length : Int) := by omega
   have HR := Lib.hid (chkK_large (V := V) (.inr h6))
   go_enter Tryz.func131, Tryz.ntmps131
   go_wp2
   go_ret
   exact ⟨by rw [HR.out]; rfl, (Gr.refl _).alloc _⟩
  ·have h6' : decide ((60 : Int) < (M.length : Int)) = false := by simp; omega
   have h6'' : (M.length : Int) ≤ 60 := by omega
   have hno : ¬ (5 < V.length ∨ 60 < M.length) := by omega
   have HV : Hid (∀ w', Gr w w' → Calls Tryz.prog 181 #[.slice va V.length vc] w' fun e w'' => e = .returned (.int .i64 (chkV V)) ∧ Gr w' w'') := fun w' g => checkVec_any _ V w' (R1h.out.gr g) (by omega)
   by_cases hz : chkV V = 0
   ·have HR := Lib.hid (chkK_more hno hz)
    have hin := (chkV_zero hz).1
    have EV := ints_natsI hin
    have hz' : chkV V = 0 := hz
    rw [hz] at HV
    have HC : Hid (∀ w', Gr w w' → Calls Tryz.prog 172 #[.agg #[.slice va V.length vc, .slice ma M.length mc]] w' fun e w'' => e = .returned (.agg (cArr (natsI V))) ∧ Gr w' w'') := fun w' g => countsOf_any _ (natsI V) M w' (by rw [EV]; exact HK.out.gr g) (by simp [natsI]; omega)
    have HM : Hid (∀ w', Gr w w' → Calls Tryz.prog 182 #[.slice ma M.length mc, .agg (cArr (natsI V))] w' fun e w'' => e = .returned (.int .i64 (chkM (natsI V) M)) ∧ Gr w' w'') := fun w' g => checkMore_any _ (natsI V) M w' (R2h.out.gr g) (by omega) (fun x hx => by
     obtain ⟨y, hy, rfl⟩ := List.mem_map.1 hx
     have := hin y hy; omega)
    generalize chkM (natsI V) M = R at *
    generalize cArr (natsI V) = A at *
    generalize hN : V.length = N at *
    have HN := Lib.hid hN
    clear hN hz hz' hin EV
    go_enter Tryz.func131, Tryz.ntmps131
    go_wp2_with (first | (go_at_call 181; refine (HV.out _ ((Gr.refl w).alloc _)).mono ?_; rintro e w1 ⟨rfl, g1⟩; have G1 := Lib.hid (((Gr.refl w).alloc _).trans g1)))
    have e1 := (g1.cells.1 w.heap.size 0 (by simp)).trans (show (w.alloc (.cells #[.slice va N vc, .slice ma M.length mc] 75)).cell? ⟨w.heap.size, 0, none⟩ = some (.slice va N vc) by simp [go_sem])
    have e2 := (g1.cells.1 w.heap.size 1 (by simp)).trans (show (w.alloc (.cells #[.slice va N vc, .slice ma M.length mc] 75)).cell? ⟨w.heap.size, 1, none⟩ = some (.slice ma M.length mc) by simp [go_sem])
    have hlt : w.heap.size < w1.heap.size := Nat.lt_of_lt_of_le (by simp) g1.le
    clear g1 HV
    go_region_held3 (fun x => x.cell? ⟨w.heap.size, 0, none⟩ = some (.slice va N vc) ∧ x.cell? ⟨w.heap.size, 1, none⟩ = some (.slice ma M.length mc))
     (go_keep)
     (first
      | (go_at_call 172; refine (beside_gr (HC.out w1.drew G1.out.drew) (fun e w' q => q.2) (S := fun x => x.cell? ⟨w.heap.size, 0, none⟩ = some (.slice va N vc) ∧ x.cell? ⟨w.heap.size, 1, none⟩ = some (.slice ma M.length mc)) (fun x gx => ⟨(gx.cells.1 _ 0 hlt).trans e1, (gx.cells.1 _ 1 hlt).trans e2⟩)).mono ?_; rintro e w2 ⟨⟨rfl, g2⟩, k1, k2⟩)
      | (go_at_call 182; refine (beside_gr (HM.out w2 (G1.out.drew.trans g2)) (fun e w' q => q.2) (S := fun x => x.cell? ⟨w.heap.size, 0, none⟩ = some (.slice va N vc) ∧ x.cell? ⟨w.heap.size, 1, none⟩ = some (.slice ma M.length mc)) (fun x gx => ⟨(gx.cells.1 _ 0 (Nat.lt_of_lt_of_le hlt g2.le)).trans k1, (gx.cells.1 _ 1 (Nat.lt_of_lt_of_le hlt g2.le)).trans k2⟩)).mono ?_; rintro e w3 ⟨⟨rfl, g3⟩, k3, k4⟩))
    go_wp2
    go_ret
    exact ⟨by rw [HR.out]; rfl, (G1.out.drew.trans g2).trans g3⟩
   ·have HR := Lib.hid (chkK_vec hno hz)
    generalize chkV V = R at *
    go_enter Tryz.func131, Tryz.ntmps131
    go_wp2_with (first | (go_at_call 181; refine (HV.out _ ((Gr.refl w).alloc _)).mono ?_; rintro e w1 ⟨rfl, g1⟩; have G1 := Lib.hid (((Gr.refl w).alloc _).trans g1); clear g1))
    go_ret
    exact ⟨by rw [HR.out]; rfl, G1.out⟩
theorem kcheckBoth (k k' : Value) (V V' : List Int) (M M' : List (Int × Int)) (w : World) (hk : KnR w k V M) (hk' : KnR w k' V' M') :
  Calls Tryz.prog 171 #[k, k'] w fun e w' => e = .returned (.int .i64 (if chkK V M ≠ 0 then chkK V M else chkK V' M')) ∧ Gr w w' := by
 have H1 : Hid (∀ w', Gr w w' → Calls Tryz.prog 131 #[k] w' fun e w'' => e = .returned (.int .i64 (chkK V M)) ∧ Gr w' w'') := fun w' g => kcheck_any k V M w' (hk.gr g)
 have H2 : Hid (∀ w', Gr w w' → Calls Tryz.prog 131 #[k'] w' fun e w'' => e = .returned (.int .i64 (chkK V' M')) ∧ Gr w' w'') := fun w' g => kcheck_any k' V' M' w' (hk'.gr g)
 obtain ⟨vv, mv, rfl, -⟩ := hk
 obtain ⟨vv', mv', rfl, -⟩ := hk'
 generalize chkK V M = r at *
 generalize chkK V' M' = r' at *
 have G0 := Lib.hid (((Gr.refl w).alloc (.cells #[vv, mv] 75)).alloc (.cells #[vv', mv'] 75))
 have BX : Hid (∀ w1, Gr ((w.alloc (.cells #[vv, mv] 75)).alloc (.cells #[vv', mv'] 75)) w1 → w1.cell? ⟨w.heap.size + 1, 0, none⟩ = some vv' ∧ w1.cell? ⟨w.heap.size + 1, 1, none⟩ = some mv') := fun w1 g1 => ⟨(g1.cells.1 (w.heap.size + 1) 0 (by simp)).trans (by simp [go_sem]), (g1.cells.1 (w.heap.size + 1) 1 (by simp)).trans (by simp [go_sem])⟩
 by_cases h : r = 0
 ·subst h
  go_enter Tryz.func171, Tryz.ntmps171
  go_wp2_with (first
   | (go_at_call 131; refine (H1.out _ G0.out).mono ?_; rintro e w1 ⟨rfl, g1⟩; obtain ⟨c0, c1⟩ := BX.out _ g1; have G1 := Lib.hid (G0.out.trans g1); clear g1 H1)
   | (go_at_call 131; refine (H2.out _ G1.out).mono ?_; rintro e w2 ⟨rfl, g2⟩))
  go_ret
  exact ⟨by simp, G1.out.trans g2⟩
 ·go_enter Tryz.func171, Tryz.ntmps171
  go_wp2_with (first | (go_at_call 131; refine (H1.out _ G0.out).mono ?_; rintro e w1 ⟨rfl, g1⟩))
  go_ret
  exact ⟨by first | rfl | (rw [if_pos h]; rfl), G0.out.trans g1⟩
end Go.Proofs.YtglbnggkkjhokaaGreat
/- slices.Index, Contains at dots; know.has, Has. -/
namespace Rm
open Go Go.RowKit
def idxI (M : List (Int × Int)) (d : Int × Int) (n : Nat) : Int := if d ∈ M then (n : Int) else -1
end Rm
namespace Go.Proofs.YtglbnggkkjhokaaGreat
open Go.RowKit Rm
theorem kindex_any (m : Value) (M : List (Int × Int)) (d : Int × Int) (w : World) (hr : Rd2 w m M) (hl : M.length ≤ 1000) :
  Calls Tryz.prog 260 #[m, .agg #[.int .i64 d.1, .int .i64 d.2]] w fun e w' => (∃ n : Nat, e = .returned (.int .i64 (idxI M d n))) ∧ Gr w w' := by
 obtain ⟨a, c, rfl, hc, hx⟩ := hr
 obtain ⟨x, y⟩ := d
 have G1 := Lib.hid ((Gr.refl w).alloc (.cells #[.int .i64 x, .int .i64 y] 51))
 have T1 := Lib.hid (Two.new w x y 51)
 have HX := Lib.hid hx
 have HLI : (M.length : Int) ≤ 1000 := by omega
 clear hx
 go_enter Tryz.func260, Tryz.ntmps260
 go_wp2
 generalize w.alloc (.cells #[.int .i64 x, .int .i64 y] 51) = w1 at *
 go_loopw [4, 5, 8, 9, 10, 11, 12, 13, 14, 15, 16, 17, 18] (fun _ _ i _ _ _ _ _ _ _ _ _ _ wr => ∃ k : Nat, k ≤ M.length ∧ i = .int .i64 k ∧ Gr w1 wr ∧ ∀ j, j < k → M[j]? ≠ some (x, y)) (fun _ _ i _ _ _ _ _ _ _ _ _ _ _ => M.length - (intOf i).toNat)
 case atStart => exact ⟨0, by omega, rfl, Gr.refl _, fun j hj => by omega⟩
 case round =>
  obtain ⟨k, hk, rfl, gr, hz⟩ := hrel
  have HZ := Lib.hid hz
  have GR := Lib.hid gr
  clear hz gr
  by_cases hkl : k < M.length
  ·obtain ⟨d, hd⟩ : ∃ d, M[k]? = some d := ⟨_, List.getElem?_eq_getElem hkl⟩
   obtain ⟨b, off, rfl, hb, hcell⟩ := HX.out (by intro e; rw [e] at hkl; simp at hkl)
   have hkI : (k : Int) < (M.length : Int) := by omega
   have G01 := Lib.hid (G1.out.trans GR.out)
   have q1 := (G01.out.cells.1 b (off + k * 2) hb).trans (hcell k d hd).1
   have q2 := (G01.out.cells.1 b (off + k * 2 + 1) hb).trans (hcell k d hd).2
   obtain ⟨t0, t1, t2⟩ := T1.out.gr GR.out
   obtain ⟨p, q⟩ := d
   simp only at q1 q2
   clear hcell
   by_cases he : (p, q) = (x, y)
   ·obtain ⟨rfl, rfl⟩ := Prod.mk.inj he
    have hmem : Hid ((p, q) ∈ M) := List.mem_of_getElem? hd
    clear he
    go_wp2_with fail
    go_quiet (fail)
    go_wp2
    go_ret
    exact ⟨⟨k, by unfold idxI; rw [if_pos hmem.out]; rfl⟩, G01.out.drewN _⟩
   ·have HN : Hid (∀ j, j < k + 1 → M[j]? ≠ some (x, y)) := fun j hj => by
     by_cases e : j = k
     ·subst e; rw [hd]; intro e'; exact he (Option.some.inj e')
     ·exact HZ.out j (by omega)
    have he' : ¬ (x = p ∧ y = q) := fun e => he (by rw [e.1, e.2])
    clear he hd
    by_cases hxp : x = p
    ·subst hxp
     have hyq : ¬ y = q := fun e => he' ⟨rfl, e⟩
     clear he'
     go_wp2_with fail
     go_quiet (fail)
     go_wp2
     go_roundw
     case rel => exact ⟨k + 1, by omega, by go_num, GR.out.drewN _, HN.out⟩
     case measure => simp [intOf]; omega
    ·clear he'
     go_wp2_with fail
     go_quiet (fail)
     go_wp2
     go_roundw
     case rel => exact ⟨k + 1, by omega, by go_num, GR.out.drewN _, HN.out⟩
     case measure => simp [intOf]; omega
  ·obtain rfl : k = M.length := by omega
   have HF : Hid ((x, y) ∉ M) := fun hm => by
    obtain ⟨j, hj⟩ := List.getElem?_of_mem hm
    exact HZ.out j (List.getElem?_eq_some_iff.1 hj).1 hj
   go_wp2
   go_ret
   exact ⟨⟨0, by unfold idxI; rw [if_neg HF.out]; rfl⟩, G1.out.trans GR.out⟩
theorem contains_any (m : Value) (M : List (Int × Int)) (d : Int × Int) (w : World) (hr : Rd2 w m M) (hl : M.length ≤ 1000) :
  Calls Tryz.prog 237 #[m, .agg #[.int .i64 d.1, .int .i64 d.2]] w fun e w' => e = .returned (.bool (decide (d ∈ M))) ∧ Gr w w' := by
 have H := Lib.hid (kindex_any m M d _ (hr.alloc (.cells #[.int .i64 d.1, .int .i64 d.2] 51)) hl)
 obtain ⟨x, y⟩ := d
 simp only at H
 go_enter Tryz.func237, Tryz.ntmps237
 go_wp2_with (first | (go_at_call 260; refine H.out.mono ?_; rintro e w1 ⟨⟨n, rfl⟩, g1⟩))
 go_ret
 refine ⟨?_, ((Gr.refl w).alloc _).trans g1⟩
 unfold idxI
 by_cases h : (x, y) ∈ M <;> simp [h]
theorem index_counts (v : List Nat) (s : Nat) (hs : s < 5) (w : World) : (Instr.index 237 (.agg (cArr v)) (.int .i64 (s : Int))).run Tryz.prog w = .ok (.int .i64 (cv v s : Nat)) w := by
 have hz : (sizeOf 3).run Tryz.prog w = .ok 1 w := by
  cases hq : Tryz.prog.info? 3 with
  | none => have := int_size1; rw [hq] at this; simp at this
  | some i =>
   have hs : i.size = 1 := by have := int_size1; rw [hq] at this; simpa using this
   simp [sizeOf, typeInfo, hq, hs]
 have hc := cArr_at v s hs
 simp [Instr.index, Sem.run_bind, run_underlying Tryz.underlying237, asIntOf, part, hz, hc]
 intro h
 omega
end Go.Proofs.YtglbnggkkjhokaaGreat
/- Steps of a region that draws its order, over any state of the frame. -/
namespace Go.Proofs.YtglbnggkkjhokaaGreat
open Go.RowKit Rm
theorem re_ne (a : Act) (d : Nat) (v : Value) (t : Nat) (h : t ≠ d) : (a.put (some d) v).eval (.tmp t) = a.eval (.tmp t) := by
 simp only [Act.put, Act.eval, Array.getD_eq_getD_getElem?]
 rw [Array.getElem?_setIfInBounds_ne (Ne.symm h)]
theorem re_eq (a : Act) (d : Nat) (v : Value) (h : d < a.tmps.size) : (a.put (some d) v).eval (.tmp d) = v := by
 simp only [Act.put, Act.eval, Array.getD_eq_getD_getElem?]
 rw [Array.getElem?_setIfInBounds_self_of_lt h]
 rfl
theorem re_size (a : Act) (d : Nat) (v : Value) : (a.put (some d) v).tmps.size = a.tmps.size := by
 simp [Act.put]
theorem re_const (a : Act) (v : Value) : a.eval (.const v) = v := rfl
theorem re_comm (a : Act) (i j : Nat) (x y : Value) (h : i ≠ j) : (a.put (some i) x).put (some j) y = (a.put (some j) y).put (some i) x := by
 simp only [Act.put]
 congr 1
 apply Array.ext_getElem?
 intro k
 simp only [Array.getElem?_setIfInBounds, Array.size_setIfInBounds]
 by_cases h1 : j = k <;> by_cases h2 : i = k <;> simp [h1, h2] <;> omega
section
variable {ops : Array Oper} {Q : Exit → Act → World → Prop} {S : World → Prop}
theorem re_yld (a : Act) (j d : Nat) (b : Bool) (h : (ops[j]?).bind (·.dst) = some d) (hv : a.eval (.tmp d) = .bool b) : yielded ops a.tmps j = some b := by
 unfold yielded
 rw [h]
 simp only [Act.eval, Array.getD_eq_getD_getElem?] at hv
 simp only [Option.bind_some]
 cases hc : a.tmps[d]? with
 | none => rw [hc] at hv; cases hv
 | some u => rw [hc] at hv; simp only [Option.getD_some] at hv; subst hv; rfl
theorem re_none {o : Oper} (f : Nat → Option Bool) (h : o.guard = none) : Region.wanted o f = true := by
 unfold Region.wanted; rw [h]
theorem re_some {o : Oper} (f : Nat → Option Bool) (j : Nat) (w b : Bool) (h : o.guard = some (j, w)) (hf : f j = some b) : Region.wanted o f = (b == w) := by
 unfold Region.wanted; rw [h]; simp only [hf]; cases b <;> cases w <;> rfl
theorem re_tk {i : Nat} {oi : Oper} {v : Value} {fuel : Nat} {listed : Array Bool} {a : Act} {w : World} {d : Nat} (hQ : ∀ c a d v w, Q (.panic c) (Act.put a (some d) v) w → Q (.panic c) a w)
  (hi : ops[i]? = some oi) (hd : oi.dst = some d) (hf : Region.free .any ops listed i = true) (hr : (Region.ready .any ops listed).contains i = true)
  (hs : Region.noSelect ops = true) (hy : YieldsIf Tryz.prog ops S oi v a) (hS : S w)
  (h : wpAnyH Tryz.prog .any ops Q S fuel (listed.setIfInBounds i true) (a.put (some d) v) w) : wpAnyH Tryz.prog .any ops Q S (fuel + 1) listed a w :=
 wpAnyH_take hi hs hf hr (fun c a w h => hQ c a d v w (hd ▸ h)) hy hS (hd ▸ h)
theorem re_one {i : Nat} {oi : Oper} {fuel : Nat} {listed : Array Bool} {a : Act} {w : World} (hr : Region.ready .any ops listed = [i]) (hi : ops[i]? = some oi) (hw : Region.wanted oi (yielded ops a.tmps) = true)
    (h : ∀ K : Act → World → Prop, (∀ a w, S w → wpAnyH Tryz.prog .any ops Q S fuel (listed.setIfInBounds i true) a w → K a w) → Oper.wp Tryz.prog oi a w K Q) : wpAnyH Tryz.prog .any ops Q S (fuel + 1) listed a w := by
  refine wpAnyH_ready (rs := [i]) hr (by simp) (AllReadyH.cons hi (fun K hK => ?_) AllReadyH.nil)
  rw [if_pos hw]
  exact h K (fun a w h1 h2 => hK.out a w h1 (fun _ => h2))
theorem re_pair {i j : Nat} {oi oj : Oper} {fuel : Nat} {listed : Array Bool} {a : Act} {w : World} (hr : Region.ready .any ops listed = [i, j]) (hi : ops[i]? = some oi) (hj : ops[j]? = some oj)
    (hw : Region.wanted oi (yielded ops a.tmps) = true) (hw' : Region.wanted oj (yielded ops a.tmps) = true)
    (h : ∀ K : Act → World → Prop, (∀ a w, S w → wpAnyH Tryz.prog .any ops Q S fuel (listed.setIfInBounds i true) a w → K a w) → Oper.wp Tryz.prog oi a w K Q)
    (h' : ∀ K : Act → World → Prop, (∀ a w, S w → wpAnyH Tryz.prog .any ops Q S fuel (listed.setIfInBounds j true) a w → K a w) → Oper.wp Tryz.prog oj a w K Q) : wpAnyH Tryz.prog .any ops Q S (fuel + 1) listed a w := by
  refine wpAnyH_ready (rs := [i, j]) hr (by simp) (AllReadyH.cons hi (fun K hK => ?_) (AllReadyH.cons hj (fun K hK => ?_) AllReadyH.nil))
  · rw [if_pos hw]
    exact h K (fun a w h1 h2 => hK.out a w h1 (fun _ => h2))
  · rw [if_pos hw']
    exact h' K (fun a w h1 h2 => hK.out a w h1 (fun _ => h2))
theorem re_wcall {oi : Oper} {f : Nat} {args : Array Value} {a : Act} {w : World} {K : Act → World → Prop} {A : Ending → World → Prop} {d : Nat} (hd : oi.dst = some d) (hrun : (execOp a.eval oi).run Tryz.prog w = .ok (.enter f args) w) (hc : Calls Tryz.prog f args w A)
  (h : ∀ e w', A e w' → ∃ v, e = .returned v ∧ K (a.put (some d) v) w') : Oper.wp Tryz.prog oi a w K Q := by
 unfold Oper.wp
 rw [hrun, Oper.upon_enter]
 refine hc.mono ?_
 intro e w' hA
 obtain ⟨v, rfl, hk⟩ := h e w' hA
 rw [hd]
 exact hk
theorem re_wval {oi : Oper} {v : Value} {a : Act} {w w' : World} {K : Act → World → Prop} {d : Nat} (hd : oi.dst = some d) (hrun : (execOp a.eval oi).run Tryz.prog w = .ok (.value v) w') (h : K (a.put (some d) v) w') : Oper.wp Tryz.prog oi a w K Q := by
 unfold Oper.wp
 rw [hrun]
 rw [← hd] at h
 exact h
end
section
variable (ev : Operand → Value) (d : Option Tmp) (ty : TypeId) (p : String) (af : Array Edge) (g : Option (Nat × Bool)) (w : World)
theorem rr_move (x : Operand) (v : Value) (h : ev x = v) : (execOp ev (Oper.mk d (.move x) ty p af g)).run Tryz.prog w = .ok (.value v) w := by
 subst h; rfl
theorem rr_assign (x : Operand) (v : Value) (h : ev x = v) : (execOp ev (Oper.mk d (.assign x) ty p af g)).run Tryz.prog w = .ok (.value v) w := by
 subst h; rfl
theorem rr_pick (c x y : Operand) (b : Bool) (v : Value) (hc : ev c = .bool b) (h : (if b then ev x else ev y) = v) : (execOp ev (Oper.mk d (.pick c x y) ty p af g)).run Tryz.prog w = .ok (.value v) w := by
 subst h; cases b <;> go_simp
theorem rr_ext0 (x : Operand) (u v : Value) (h : ev x = .tuple #[u, v]) : (execOp ev (Oper.mk d (.extract x 0) ty p af g)).run Tryz.prog w = .ok (.value u) w := by
 go_simp
theorem rr_ext1 (x : Operand) (u v : Value) (h : ev x = .tuple #[u, v]) : (execOp ev (Oper.mk d (.extract x 1) ty p af g)).run Tryz.prog w = .ok (.value v) w := by
 go_simp
theorem rr_enter_of {f : FuncId} {fn : Func} (hf : Tryz.prog.funcs[f]? = some fn) (hname : (fn.name == "runtime.NumGoroutine") = false) (hb : fn.body.isNone = false) (args : Array Value) (w : World) : (callFunc f args).run Tryz.prog w = .ok (.enter f args) w := by
 have h1 : ¬ fn.name = "runtime.NumGoroutine" := by simpa using hname
 have h2 : ¬ fn.body = none := by intro e; rw [e] at hb; cases hb
 simp [callFunc, Sem.run_bind, hf, h1, h2]
theorem rr_enter1 (f : Nat) (x : Operand) (v : Value) (ts : Array TypeId) (h : ev x = v) (hf : ev (.func f) = .func (.func f) #[] #[]) (hcf : (callFunc f #[v]).run Tryz.prog w = .ok (.enter f #[v]) w) : (execOp ev (Oper.mk d (.call (Call.mk (.value (.func f)) #[x] ts)) ty p af g)).run Tryz.prog w = .ok (.enter f #[v]) w := by
 go_simp
theorem rr_enter2 (f : Nat) (x y : Operand) (u v : Value) (ts : Array TypeId) (h : ev x = u) (h' : ev y = v) (hf : ev (.func f) = .func (.func f) #[] #[]) (hcf : (callFunc f #[u, v]).run Tryz.prog w = .ok (.enter f #[u, v]) w) : (execOp ev (Oper.mk d (.call (Call.mk (.value (.func f)) #[x, y] ts)) ty p af g)).run Tryz.prog w = .ok (.enter f #[u, v]) w := by
 go_simp
end
end Go.Proofs.YtglbnggkkjhokaaGreat
/- know.has: its drawn region over any frame; Has. -/
namespace Go.Proofs.YtglbnggkkjhokaaGreat
open Go.RowKit Rm
section
variable (ev : Operand → Value) (d : Option Tmp) (ty : TypeId) (p : String) (af : Array Edge) (g : Option (Nat × Bool)) (w : World)
theorem rr_fD0 (x : Operand) (B : Nat) (h : ev x = .pointer (some ⟨B, 0, none⟩)) : (execOp ev (Oper.mk d (.fieldAddr 51 x 0) ty p af g)).run Tryz.prog w = .ok (.value (.pointer (some ⟨B, 0, none⟩))) w := by
 go_simp
theorem rr_fD1 (x : Operand) (B : Nat) (h : ev x = .pointer (some ⟨B, 0, none⟩)) : (execOp ev (Oper.mk d (.fieldAddr 51 x 1) ty p af g)).run Tryz.prog w = .ok (.value (.pointer (some ⟨B, 1, none⟩))) w := by
 go_simp
theorem rr_fK1 (x : Operand) (B : Nat) (h : ev x = .pointer (some ⟨B, 0, none⟩)) : (execOp ev (Oper.mk d (.fieldAddr 75 x 1) ty p af g)).run Tryz.prog w = .ok (.value (.pointer (some ⟨B, 1, none⟩))) w := by
 go_simp
theorem rr_lI (x : Operand) (B o : Nat) (n : Int) (h : ev x = .pointer (some ⟨B, o, none⟩)) (hc : w.cell? ⟨B, o, none⟩ = some (.int .i64 n)) : (execOp ev (Oper.mk d (.load 3 x) ty p af g)).run Tryz.prog w = .ok (.value (.int .i64 n)) w := by
 go_simp
theorem rr_lS (x : Operand) (B o : Nat) (v : Value) (h : ev x = .pointer (some ⟨B, o, none⟩)) (hc : w.cell? ⟨B, o, none⟩ = some v) : (execOp ev (Oper.mk d (.load 73 x) ty p af g)).run Tryz.prog w = .ok (.value v) w := by
 go_simp
theorem rr_lK (x : Operand) (B : Nat) (u v : Value) (h : ev x = .pointer (some ⟨B, 0, none⟩)) (hc : w.cell? ⟨B, 0, none⟩ = some u) (hc' : w.cell? ⟨B, 1, none⟩ = some v) : (execOp ev (Oper.mk d (.load 75 x) ty p af g)).run Tryz.prog w = .ok (.value (.agg #[u, v])) w := by
 go_simp
theorem rr_lD (x : Operand) (B : Nat) (u v : Value) (h : ev x = .pointer (some ⟨B, 0, none⟩)) (hc : w.cell? ⟨B, 0, none⟩ = some u) (hc' : w.cell? ⟨B, 1, none⟩ = some v) : (execOp ev (Oper.mk d (.load 51 x) ty p af g)).run Tryz.prog w = .ok (.value (.agg #[u, v])) w := by
 go_simp
theorem rr_ix (x y : Operand) (A : Array Value) (s n : Nat) (h : ev x = .agg A) (h' : ev y = .int .i64 (s : Int)) (hix : ∀ w, (Instr.index 237 (.agg A) (.int .i64 (s : Int))).run Tryz.prog w = .ok (.int .i64 (n : Nat)) w) : (execOp ev (Oper.mk d (.index 237 x y) ty p af g)).run Tryz.prog w = .ok (.value (.int .i64 (n : Nat))) w := by
 go_simp
theorem rr_leq (x y : Operand) (a b : Int) (q : Bool) (h : ev x = .int .i64 a) (h' : ev y = .int .i64 b) (hq : decide (a ≤ b) = q) : (execOp ev (Oper.mk d (.binOp .leq 3 x y 3) ty p af g)).run Tryz.prog w = .ok (.value (.bool q)) w := by
 subst hq
 go_simp
end
def hs_0 : Oper := Oper.mk (some 5) (Op.fieldAddr 51 (Operand.tmp 3) 1) 0 "know.go:150" #[] none
def hs_1 : Oper := Oper.mk (some 6) (Op.load 3 (Operand.tmp 5)) 3 "know.go:150" #[Edge.mk 0 Ground.data] none
def hs_2 : Oper := Oper.mk (some 7) (Op.load 75 (Operand.tmp 2)) 75 "know.go:150" #[] none
def hs_3 : Oper := Oper.mk (some 8) (Op.call (Call.mk (Callee.value (Operand.func 172)) #[Operand.tmp 7] #[75])) 237 "know.go:150" #[Edge.mk 2 Ground.data] none
def hs_4 : Oper := Oper.mk (some 9) (Op.fieldAddr 51 (Operand.tmp 3) 0) 0 "know.go:150" #[] none
def hs_5 : Oper := Oper.mk (some 10) (Op.load 3 (Operand.tmp 9)) 3 "know.go:150" #[Edge.mk 4 Ground.data] none
def hs_6 : Oper := Oper.mk (some 11) (Op.index 237 (Operand.tmp 8) (Operand.tmp 10)) 3 "know.go:150" #[Edge.mk 3 Ground.data, Edge.mk 5 Ground.data] none
def hs_7 : Oper := Oper.mk (some 12) (Op.binOp BinOp.leq 3 (Operand.tmp 6) (Operand.tmp 11) 3) 4 "know.go:150" #[Edge.mk 1 Ground.data, Edge.mk 6 Ground.data] none
def hs_8 : Oper := Oper.mk (some 13) (Op.move (Operand.tmp 12)) 4 "know.go:150" #[Edge.mk 7 Ground.data, Edge.mk 3 Ground.chain] none
def hs_9 : Oper := Oper.mk (some 14) (Op.fieldAddr 75 (Operand.tmp 2) 1) 0 "know.go:150" #[Edge.mk 8 Ground.guard] (some (8, false))
def hs_10 : Oper := Oper.mk (some 15) (Op.load 73 (Operand.tmp 14)) 73 "know.go:150" #[Edge.mk 9 Ground.data, Edge.mk 8 Ground.guard] (some (8, false))
def hs_11 : Oper := Oper.mk (some 16) (Op.load 51 (Operand.tmp 3)) 51 "know.go:150" #[Edge.mk 8 Ground.guard] (some (8, false))
def hs_12 : Oper := Oper.mk (some 17) (Op.call (Call.mk (Callee.value (Operand.func 237)) #[Operand.tmp 15, Operand.tmp 16] #[73, 51])) 4 "know.go:150" #[Edge.mk 10 Ground.data, Edge.mk 11 Ground.data, Edge.mk 8 Ground.chain, Edge.mk 8 Ground.guard] (some (8, false))
def hs_13 : Oper := Oper.mk (some 18) (Op.pick (Operand.tmp 13) (Operand.const (Value.bool true)) (Operand.tmp 17)) 4 "know.go:150" #[Edge.mk 8 Ground.data, Edge.mk 12 Ground.data] none
def hs_14 : Oper := Oper.mk (some 4) (Op.assign (Operand.tmp 18)) 4 "know.go:150" #[Edge.mk 13 Ground.data, Edge.mk 12 Ground.chain, Edge.mk 0 Ground.phase, Edge.mk 1 Ground.phase, Edge.mk 2 Ground.phase, Edge.mk 3 Ground.phase, Edge.mk 4 Ground.phase, Edge.mk 5 Ground.phase, Edge.mk 6 Ground.phase, Edge.mk 7 Ground.phase, Edge.mk 8 Ground.phase, Edge.mk 9 Ground.phase, Edge.mk 10 Ground.phase, Edge.mk 11 Ground.phase, Edge.mk 12 Ground.phase, Edge.mk 13 Ground.phase] none
def hs_Ops : Array Oper := #[hs_0, hs_1, hs_2, hs_3, hs_4, hs_5, hs_6, hs_7, hs_8, hs_9, hs_10, hs_11, hs_12, hs_13, hs_14]
theorem has_reg_no (Q : Exit → Act → World → Prop) (hQ : ∀ c a d v w, Q (.panic c) (Act.put a (some d) v) w → Q (.panic c) a w) (a : Act) (w : World) (g0 g1 s c n : Nat) (vv mv : Value) (A : Array Value) (q : Bool)
  (hsz : a.tmps.size = 19) (h2 : a.eval (.tmp 2) = .pointer (some ⟨g0, 0, none⟩)) (h3 : a.eval (.tmp 3) = .pointer (some ⟨g1, 0, none⟩))
  (hS0 : w.cell? ⟨g0, 0, none⟩ = some vv ∧ w.cell? ⟨g0, 1, none⟩ = some mv ∧ w.cell? ⟨g1, 0, none⟩ = some (.int .i64 (s : Int)) ∧ w.cell? ⟨g1, 1, none⟩ = some (.int .i64 (c : Int))) (hl0 : g0 < w.heap.size) (hl1 : g1 < w.heap.size)
  (hix : ∀ w, (Instr.index 237 (.agg A) (.int .i64 (s : Int))).run Tryz.prog w = .ok (.int .i64 (n : Nat)) w) (hle : decide ((c : Int) ≤ (n : Int)) = true)
  (HC : ∀ w', Gr w w' → Calls Tryz.prog 172 #[.agg #[vv, mv]] w' fun e w'' => e = .returned (.agg A) ∧ Gr w' w'')
  (HM : ∀ w', Gr w w' → Calls Tryz.prog 237 #[mv, .agg #[.int .i64 (s : Int), .int .i64 (c : Int)]] w' fun e w'' => e = .returned (.bool q) ∧ Gr w' w'')
  (h : ∀ w', Gr w w' → Q .normal (Act.put (Act.put (Act.put (Act.put (Act.put (Act.put (Act.put (Act.put (Act.put (Act.put (Act.put (Act.put (Act.put (Act.put (Act.put a (some 5) (.pointer (some ⟨g1, 1, none⟩))) (some 6) (.int .i64 (c : Int))) (some 7) (.agg #[vv, mv])) (some 9) (.pointer (some ⟨g1, 0, none⟩))) (some 10) (.int .i64 (s : Int))) (some 8) (.agg A)) (some 11) (.int .i64 (n : Int))) (some 12) (.bool true)) (some 13) (.bool true)) (some 14) (undef)) (some 15) (undef)) (some 16) (undef)) (some 17) (undef)) (some 18) (.bool true)) (some 4) (.bool true)) w') : (Code.region 1 hs_Ops true).wp Tryz.prog Q a w := by
 have keep : ∀ x, Gr w x → (fun x => x.cell? ⟨g0, 0, none⟩ = some vv ∧ x.cell? ⟨g0, 1, none⟩ = some mv ∧ x.cell? ⟨g1, 0, none⟩ = some (.int .i64 (s : Int)) ∧ x.cell? ⟨g1, 1, none⟩ = some (.int .i64 (c : Int))) x := fun x gx => ⟨(gx.cells.1 g0 0 hl0).trans hS0.1, (gx.cells.1 g0 1 hl0).trans hS0.2.1, (gx.cells.1 g1 0 hl1).trans hS0.2.2.1, (gx.cells.1 g1 1 hl1).trans hS0.2.2.2⟩
 refine wp_region_held_drew (S := fun x => x.cell? ⟨g0, 0, none⟩ = some vv ∧ x.cell? ⟨g0, 1, none⟩ = some mv ∧ x.cell? ⟨g1, 0, none⟩ = some (.int .i64 (s : Int)) ∧ x.cell? ⟨g1, 1, none⟩ = some (.int .i64 (c : Int))) (by kernel_rfl) hS0 (fun hHeld => ?_)
 show wpAnyH Tryz.prog .any hs_Ops Q _ 15 (Array.replicate 15 false) a w.drew
 refine re_tk (i := 0) (oi := hs_0) (v := .pointer (some ⟨g1, 1, none⟩)) (d := 5) hQ rfl rfl (by kernel_rfl) (by kernel_rfl) (by kernel_rfl) (Or.inl ⟨re_none _ rfl, fun wx hS => rr_fD1 _ _ _ _ _ _ _ _ g1 (by simp [re_ne, re_eq, re_size, re_const, hsz, h2, h3])⟩) hHeld ?_
 refine re_tk (i := 1) (oi := hs_1) (v := .int .i64 (c : Int)) (d := 6) hQ rfl rfl (by kernel_rfl) (by kernel_rfl) (by kernel_rfl) (Or.inl ⟨re_none _ rfl, fun wx hS => rr_lI _ _ _ _ _ _ _ _ g1 1 (c : Int) (by simp [re_ne, re_eq, re_size, re_const, hsz, h2, h3]) hS.2.2.2⟩) hHeld ?_
 refine re_tk (i := 2) (oi := hs_2) (v := .agg #[vv, mv]) (d := 7) hQ rfl rfl (by kernel_rfl) (by kernel_rfl) (by kernel_rfl) (Or.inl ⟨re_none _ rfl, fun wx hS => rr_lK _ _ _ _ _ _ _ _ g0 vv mv (by simp [re_ne, re_eq, re_size, re_const, hsz, h2, h3]) hS.1 hS.2.1⟩) hHeld ?_
 refine re_tk (i := 4) (oi := hs_4) (v := .pointer (some ⟨g1, 0, none⟩)) (d := 9) hQ rfl rfl (by kernel_rfl) (by kernel_rfl) (by kernel_rfl) (Or.inl ⟨re_none _ rfl, fun wx hS => rr_fD0 _ _ _ _ _ _ _ _ g1 (by simp [re_ne, re_eq, re_size, re_const, hsz, h2, h3])⟩) hHeld ?_
 refine re_tk (i := 5) (oi := hs_5) (v := .int .i64 (s : Int)) (d := 10) hQ rfl rfl (by kernel_rfl) (by kernel_rfl) (by kernel_rfl) (Or.inl ⟨re_none _ rfl, fun wx hS => rr_lI _ _ _ _ _ _ _ _ g1 0 (s : Int) (by simp [re_ne, re_eq, re_size, re_const, hsz, h2, h3]) hS.2.2.1⟩) hHeld ?_
 refine re_one (i := 3) (oi := hs_3) (by kernel_rfl) rfl (re_none _ rfl) (fun K hK => ?_)
 refine re_wcall (d := 8) rfl (rr_enter1 _ _ _ _ _ _ _ 172 _ (.agg #[vv, mv]) _ (by simp [re_ne, re_eq, re_size, re_const, hsz, h2, h3]) rfl (rr_enter_of Tryz.func172 (by kernel_rfl) (by kernel_rfl) _ _)) (HC w.drew (Gr.refl w).drew) ?_
 rintro e w1 ⟨rfl, g1x⟩
 have G1 := (Gr.refl w).drew.trans g1x
 refine ⟨_, rfl, hK _ _ (keep _ G1) ?_⟩
 refine re_tk (i := 6) (oi := hs_6) (v := .int .i64 (n : Int)) (d := 11) hQ rfl rfl (by kernel_rfl) (by kernel_rfl) (by kernel_rfl) (Or.inl ⟨re_none _ rfl, fun wx hS => rr_ix _ _ _ _ _ _ _ _ _ A s n (by simp [re_ne, re_eq, re_size, re_const, hsz, h2, h3]) (by simp [re_ne, re_eq, re_size, re_const, hsz, h2, h3]) hix⟩) (keep _ G1) ?_
 refine re_tk (i := 7) (oi := hs_7) (v := .bool true) (d := 12) hQ rfl rfl (by kernel_rfl) (by kernel_rfl) (by kernel_rfl) (Or.inl ⟨re_none _ rfl, fun wx hS => rr_leq _ _ _ _ _ _ _ _ _ (c : Int) (n : Int) true (by simp [re_ne, re_eq, re_size, re_const, hsz, h2, h3]) (by simp [re_ne, re_eq, re_size, re_const, hsz, h2, h3]) hle⟩) (keep _ G1) ?_
 refine re_tk (i := 8) (oi := hs_8) (v := .bool true) (d := 13) hQ rfl rfl (by kernel_rfl) (by kernel_rfl) (by kernel_rfl) (Or.inl ⟨re_none _ rfl, fun wx hS => rr_move _ _ _ _ _ _ _ _ _ (by simp [re_ne, re_eq, re_size, re_const, hsz, h2, h3])⟩) (keep _ G1) ?_
 refine re_tk (i := 9) (oi := hs_9) (v := undef) (d := 14) hQ rfl rfl (by kernel_rfl) (by kernel_rfl) (by kernel_rfl) (Or.inr ⟨(re_some _ 8 false true rfl (re_yld _ 8 13 true rfl (by simp [re_ne, re_eq, re_size, re_const, hsz, h2, h3]))).trans rfl, rfl⟩) (keep _ G1) ?_
 refine re_tk (i := 10) (oi := hs_10) (v := undef) (d := 15) hQ rfl rfl (by kernel_rfl) (by kernel_rfl) (by kernel_rfl) (Or.inr ⟨(re_some _ 8 false true rfl (re_yld _ 8 13 true rfl (by simp [re_ne, re_eq, re_size, re_const, hsz, h2, h3]))).trans rfl, rfl⟩) (keep _ G1) ?_
 refine re_tk (i := 11) (oi := hs_11) (v := undef) (d := 16) hQ rfl rfl (by kernel_rfl) (by kernel_rfl) (by kernel_rfl) (Or.inr ⟨(re_some _ 8 false true rfl (re_yld _ 8 13 true rfl (by simp [re_ne, re_eq, re_size, re_const, hsz, h2, h3]))).trans rfl, rfl⟩) (keep _ G1) ?_
 refine re_tk (i := 12) (oi := hs_12) (v := undef) (d := 17) hQ rfl rfl (by kernel_rfl) (by kernel_rfl) (by kernel_rfl) (Or.inr ⟨(re_some _ 8 false true rfl (re_yld _ 8 13 true rfl (by simp [re_ne, re_eq, re_size, re_const, hsz, h2, h3]))).trans rfl, rfl⟩) (keep _ G1) ?_
 refine re_tk (i := 13) (oi := hs_13) (v := .bool true) (d := 18) hQ rfl rfl (by kernel_rfl) (by kernel_rfl) (by kernel_rfl) (Or.inl ⟨re_none _ rfl, fun wx hS => rr_pick _ _ _ _ _ _ _ _ _ _ true _ (by simp [re_ne, re_eq, re_size, re_const, hsz, h2, h3]) (by simp [re_ne, re_eq, re_size, re_const, hsz, h2, h3])⟩) (keep _ G1) ?_
 refine re_tk (i := 14) (oi := hs_14) (v := .bool true) (d := 4) hQ rfl rfl (by kernel_rfl) (by kernel_rfl) (by kernel_rfl) (Or.inl ⟨re_none _ rfl, fun wx hS => rr_assign _ _ _ _ _ _ _ _ _ (by simp [re_ne, re_eq, re_size, re_const, hsz, h2, h3])⟩) (keep _ G1) ?_
 exact wpAnyH_done (by kernel_rfl) (h _ G1) _
theorem has_reg_yes (Q : Exit → Act → World → Prop) (hQ : ∀ c a d v w, Q (.panic c) (Act.put a (some d) v) w → Q (.panic c) a w) (a : Act) (w : World) (g0 g1 s c n : Nat) (vv mv : Value) (A : Array Value) (q : Bool)
  (hsz : a.tmps.size = 19) (h2 : a.eval (.tmp 2) = .pointer (some ⟨g0, 0, none⟩)) (h3 : a.eval (.tmp 3) = .pointer (some ⟨g1, 0, none⟩))
  (hS0 : w.cell? ⟨g0, 0, none⟩ = some vv ∧ w.cell? ⟨g0, 1, none⟩ = some mv ∧ w.cell? ⟨g1, 0, none⟩ = some (.int .i64 (s : Int)) ∧ w.cell? ⟨g1, 1, none⟩ = some (.int .i64 (c : Int))) (hl0 : g0 < w.heap.size) (hl1 : g1 < w.heap.size)
  (hix : ∀ w, (Instr.index 237 (.agg A) (.int .i64 (s : Int))).run Tryz.prog w = .ok (.int .i64 (n : Nat)) w) (hle : decide ((c : Int) ≤ (n : Int)) = false)
  (HC : ∀ w', Gr w w' → Calls Tryz.prog 172 #[.agg #[vv, mv]] w' fun e w'' => e = .returned (.agg A) ∧ Gr w' w'')
  (HM : ∀ w', Gr w w' → Calls Tryz.prog 237 #[mv, .agg #[.int .i64 (s : Int), .int .i64 (c : Int)]] w' fun e w'' => e = .returned (.bool q) ∧ Gr w' w'')
  (h : ∀ w', Gr w w' → Q .normal (Act.put (Act.put (Act.put (Act.put (Act.put (Act.put (Act.put (Act.put (Act.put (Act.put (Act.put (Act.put (Act.put (Act.put (Act.put a (some 5) (.pointer (some ⟨g1, 1, none⟩))) (some 6) (.int .i64 (c : Int))) (some 7) (.agg #[vv, mv])) (some 9) (.pointer (some ⟨g1, 0, none⟩))) (some 10) (.int .i64 (s : Int))) (some 8) (.agg A)) (some 11) (.int .i64 (n : Int))) (some 12) (.bool false)) (some 13) (.bool false)) (some 14) (.pointer (some ⟨g0, 1, none⟩))) (some 15) (mv)) (some 16) (.agg #[.int .i64 (s : Int), .int .i64 (c : Int)])) (some 17) (.bool q)) (some 18) (.bool q)) (some 4) (.bool q)) w') : (Code.region 1 hs_Ops true).wp Tryz.prog Q a w := by
 have keep : ∀ x, Gr w x → (fun x => x.cell? ⟨g0, 0, none⟩ = some vv ∧ x.cell? ⟨g0, 1, none⟩ = some mv ∧ x.cell? ⟨g1, 0, none⟩ = some (.int .i64 (s : Int)) ∧ x.cell? ⟨g1, 1, none⟩ = some (.int .i64 (c : Int))) x := fun x gx => ⟨(gx.cells.1 g0 0 hl0).trans hS0.1, (gx.cells.1 g0 1 hl0).trans hS0.2.1, (gx.cells.1 g1 0 hl1).trans hS0.2.2.1, (gx.cells.1 g1 1 hl1).trans hS0.2.2.2⟩
 refine wp_region_held_drew (S := fun x => x.cell? ⟨g0, 0, none⟩ = some vv ∧ x.cell? ⟨g0, 1, none⟩ = some mv ∧ x.cell? ⟨g1, 0, none⟩ = some (.int .i64 (s : Int)) ∧ x.cell? ⟨g1, 1, none⟩ = some (.int .i64 (c : Int))) (by kernel_rfl) hS0 (fun hHeld => ?_)
 show wpAnyH Tryz.prog .any hs_Ops Q _ 15 (Array.replicate 15 false) a w.drew
 refine re_tk (i := 0) (oi := hs_0) (v := .pointer (some ⟨g1, 1, none⟩)) (d := 5) hQ rfl rfl (by kernel_rfl) (by kernel_rfl) (by kernel_rfl) (Or.inl ⟨re_none _ rfl, fun wx hS => rr_fD1 _ _ _ _ _ _ _ _ g1 (by simp [re_ne, re_eq, re_size, re_const, hsz, h2, h3])⟩) hHeld ?_
 refine re_tk (i := 1) (oi := hs_1) (v := .int .i64 (c : Int)) (d := 6) hQ rfl rfl (by kernel_rfl) (by kernel_rfl) (by kernel_rfl) (Or.inl ⟨re_none _ rfl, fun wx hS => rr_lI _ _ _ _ _ _ _ _ g1 1 (c : Int) (by simp [re_ne, re_eq, re_size, re_const, hsz, h2, h3]) hS.2.2.2⟩) hHeld ?_
 refine re_tk (i := 2) (oi := hs_2) (v := .agg #[vv, mv]) (d := 7) hQ rfl rfl (by kernel_rfl) (by kernel_rfl) (by kernel_rfl) (Or.inl ⟨re_none _ rfl, fun wx hS => rr_lK _ _ _ _ _ _ _ _ g0 vv mv (by simp [re_ne, re_eq, re_size, re_const, hsz, h2, h3]) hS.1 hS.2.1⟩) hHeld ?_
 refine re_tk (i := 4) (oi := hs_4) (v := .pointer (some ⟨g1, 0, none⟩)) (d := 9) hQ rfl rfl (by kernel_rfl) (by kernel_rfl) (by kernel_rfl) (Or.inl ⟨re_none _ rfl, fun wx hS => rr_fD0 _ _ _ _ _ _ _ _ g1 (by simp [re_ne, re_eq, re_size, re_const, hsz, h2, h3])⟩) hHeld ?_
 refine re_tk (i := 5) (oi := hs_5) (v := .int .i64 (s : Int)) (d := 10) hQ rfl rfl (by kernel_rfl) (by kernel_rfl) (by kernel_rfl) (Or.inl ⟨re_none _ rfl, fun wx hS => rr_lI _ _ _ _ _ _ _ _ g1 0 (s : Int) (by simp [re_ne, re_eq, re_size, re_const, hsz, h2, h3]) hS.2.2.1⟩) hHeld ?_
 refine re_one (i := 3) (oi := hs_3) (by kernel_rfl) rfl (re_none _ rfl) (fun K hK => ?_)
 refine re_wcall (d := 8) rfl (rr_enter1 _ _ _ _ _ _ _ 172 _ (.agg #[vv, mv]) _ (by simp [re_ne, re_eq, re_size, re_const, hsz, h2, h3]) rfl (rr_enter_of Tryz.func172 (by kernel_rfl) (by kernel_rfl) _ _)) (HC w.drew (Gr.refl w).drew) ?_
 rintro e w1 ⟨rfl, g1x⟩
 have G1 := (Gr.refl w).drew.trans g1x
 refine ⟨_, rfl, hK _ _ (keep _ G1) ?_⟩
 refine re_tk (i := 6) (oi := hs_6) (v := .int .i64 (n : Int)) (d := 11) hQ rfl rfl (by kernel_rfl) (by kernel_rfl) (by kernel_rfl) (Or.inl ⟨re_none _ rfl, fun wx hS => rr_ix _ _ _ _ _ _ _ _ _ A s n (by simp [re_ne, re_eq, re_size, re_const, hsz, h2, h3]) (by simp [re_ne, re_eq, re_size, re_const, hsz, h2, h3]) hix⟩) (keep _ G1) ?_
 refine re_tk (i := 7) (oi := hs_7) (v := .bool false) (d := 12) hQ rfl rfl (by kernel_rfl) (by kernel_rfl) (by kernel_rfl) (Or.inl ⟨re_none _ rfl, fun wx hS => rr_leq _ _ _ _ _ _ _ _ _ (c : Int) (n : Int) false (by simp [re_ne, re_eq, re_size, re_const, hsz, h2, h3]) (by simp [re_ne, re_eq, re_size, re_const, hsz, h2, h3]) hle⟩) (keep _ G1) ?_
 refine re_tk (i := 8) (oi := hs_8) (v := .bool false) (d := 13) hQ rfl rfl (by kernel_rfl) (by kernel_rfl) (by kernel_rfl) (Or.inl ⟨re_none _ rfl, fun wx hS => rr_move _ _ _ _ _ _ _ _ _ (by simp [re_ne, re_eq, re_size, re_const, hsz, h2, h3])⟩) (keep _ G1) ?_
 refine re_tk (i := 9) (oi := hs_9) (v := .pointer (some ⟨g0, 1, none⟩)) (d := 14) hQ rfl rfl (by kernel_rfl) (by kernel_rfl) (by kernel_rfl) (Or.inl ⟨(re_some _ 8 false false rfl (re_yld _ 8 13 false rfl (by simp [re_ne, re_eq, re_size, re_const, hsz, h2, h3]))).trans rfl, fun wx hS => rr_fK1 _ _ _ _ _ _ _ _ g0 (by simp [re_ne, re_eq, re_size, re_const, hsz, h2, h3])⟩) (keep _ G1) ?_
 refine re_tk (i := 10) (oi := hs_10) (v := mv) (d := 15) hQ rfl rfl (by kernel_rfl) (by kernel_rfl) (by kernel_rfl) (Or.inl ⟨(re_some _ 8 false false rfl (re_yld _ 8 13 false rfl (by simp [re_ne, re_eq, re_size, re_const, hsz, h2, h3]))).trans rfl, fun wx hS => rr_lS _ _ _ _ _ _ _ _ g0 1 mv (by simp [re_ne, re_eq, re_size, re_const, hsz, h2, h3]) hS.2.1⟩) (keep _ G1) ?_
 refine re_tk (i := 11) (oi := hs_11) (v := .agg #[.int .i64 (s : Int), .int .i64 (c : Int)]) (d := 16) hQ rfl rfl (by kernel_rfl) (by kernel_rfl) (by kernel_rfl) (Or.inl ⟨(re_some _ 8 false false rfl (re_yld _ 8 13 false rfl (by simp [re_ne, re_eq, re_size, re_const, hsz, h2, h3]))).trans rfl, fun wx hS => rr_lD _ _ _ _ _ _ _ _ g1 _ _ (by simp [re_ne, re_eq, re_size, re_const, hsz, h2, h3]) hS.2.2.1 hS.2.2.2⟩) (keep _ G1) ?_
 refine re_one (i := 12) (oi := hs_12) (by kernel_rfl) rfl ((re_some _ 8 false false rfl (re_yld _ 8 13 false rfl (by simp [re_ne, re_eq, re_size, re_const, hsz, h2, h3]))).trans rfl) (fun K hK => ?_)
 refine re_wcall (d := 17) rfl (rr_enter2 _ _ _ _ _ _ _ 237 _ _ mv (.agg #[.int .i64 (s : Int), .int .i64 (c : Int)]) _ (by simp [re_ne, re_eq, re_size, re_const, hsz, h2, h3]) (by simp [re_ne, re_eq, re_size, re_const, hsz, h2, h3]) rfl (rr_enter_of Tryz.func237 (by kernel_rfl) (by kernel_rfl) _ _)) (HM w1 G1) ?_
 rintro e w2 ⟨rfl, g2x⟩
 have G2 := G1.trans g2x
 refine ⟨_, rfl, hK _ _ (keep _ G2) ?_⟩
 refine re_tk (i := 13) (oi := hs_13) (v := .bool q) (d := 18) hQ rfl rfl (by kernel_rfl) (by kernel_rfl) (by kernel_rfl) (Or.inl ⟨re_none _ rfl, fun wx hS => rr_pick _ _ _ _ _ _ _ _ _ _ false _ (by simp [re_ne, re_eq, re_size, re_const, hsz, h2, h3]) (by simp [re_ne, re_eq, re_size, re_const, hsz, h2, h3])⟩) (keep _ G2) ?_
 refine re_tk (i := 14) (oi := hs_14) (v := .bool q) (d := 4) hQ rfl rfl (by kernel_rfl) (by kernel_rfl) (by kernel_rfl) (Or.inl ⟨re_none _ rfl, fun wx hS => rr_assign _ _ _ _ _ _ _ _ _ (by simp [re_ne, re_eq, re_size, re_const, hsz, h2, h3])⟩) (keep _ G2) ?_
 exact wpAnyH_done (by kernel_rfl) (h _ G2) _
theorem khas_any (k : Value) (v : List Nat) (m : List (Nat × Nat)) (s c : Nat) (w : World) (hk : KnR w k (ints v) (pairs m)) (ho : OkV v m) (hl : m.length ≤ 60) (hd : inR s c) :
  Calls Tryz.prog 204 #[k, .agg #[.int .i64 (s : Int), .int .i64 (c : Int)]] w fun e w' => e = .returned (.bool (memB v m s c)) ∧ Gr w w' := by
 have HC : Hid (∀ w', Gr w w' → Calls Tryz.prog 172 #[k] w' fun e w'' => e = .returned (.agg (cArr v)) ∧ Gr w' w'') := fun w' g => countsOf_any k v _ w' (hk.gr g) ho.len
 obtain ⟨vv, mv, rfl, r1, r2, r3⟩ := hk
 have HM : Hid (∀ w', Gr w w' → Calls Tryz.prog 237 #[mv, .agg #[.int .i64 (s : Int), .int .i64 (c : Int)]] w' fun e w'' => e = .returned (.bool (m.contains (s, c))) ∧ Gr w' w'') := fun w' g => by
  have := contains_any mv (pairs m) ((s : Int), (c : Int)) w' (r2.gr g) (by rw [pairs_len]; omega)
  have e : decide (((s : Int), (c : Int)) ∈ pairs m) = m.contains (s, c) := by
   rw [Bool.eq_iff_iff]
   simp only [pairs, decide_eq_true_eq, List.mem_map, List.contains_iff_mem, Prod.mk.injEq]
   constructor
   ·rintro ⟨⟨a, b⟩, h1, h2, h3⟩
    simp only at h2 h3
    have e1 : a = s := by omega
    have e2 : b = c := by omega
    subst e1 e2; exact h1
   ·intro h; exact ⟨(s, c), h, rfl, rfl⟩
  rw [e] at this
  exact this
 obtain ⟨h5, hc1, hc2⟩ := hd
 have HB : Hid (memB v m s c = (decide (c ≤ cv v s) || m.contains (s, c))) := by
  show _ = _
  unfold memB
  congr 1
  simp [hc1]
 have HA := Lib.hid (index_counts v s h5)
 have hcv : (cv v s : Int) ≤ 1000 := by have := cv_le ho.le s; omega
 have h5' : (s : Int) < 5 := by omega
 generalize memB v m s c = R at *
 generalize m.contains (s, c) = q at *
 generalize cv v s = n at *
 generalize cArr v = A at *
 have G2 := Lib.hid (((Gr.refl w).alloc (.cells #[vv, mv] 75)).alloc (.cells #[.int .i64 (s : Int), .int .i64 (c : Int)] 51))
 have T2 := Lib.hid (Two.new (w.alloc (.cells #[vv, mv] 75)) s c 51)
 have e1 : ((w.alloc (.cells #[vv, mv] 75)).alloc (.cells #[.int .i64 (s : Int), .int .i64 (c : Int)] 51)).cell? ⟨w.heap.size, 0, none⟩ = some vv := by simp [go_sem]
 have e2 : ((w.alloc (.cells #[vv, mv] 75)).alloc (.cells #[.int .i64 (s : Int), .int .i64 (c : Int)] 51)).cell? ⟨w.heap.size, 1, none⟩ = some mv := by simp [go_sem]
 have hlt : w.heap.size < ((w.alloc (.cells #[vv, mv] 75)).alloc (.cells #[.int .i64 (s : Int), .int .i64 (c : Int)] 51)).heap.size := by simp; omega
 rw [World.size_alloc] at T2
 clear ho r1 r2 r3
 go_enter Tryz.func204, Tryz.ntmps204
 go_wp2_with fail
 generalize (w.alloc (.cells #[vv, mv] 75)).alloc (.cells #[.int .i64 (s : Int), .int .i64 (c : Int)] 51) = w1 at *
 generalize w.heap.size = g0 at *
 obtain ⟨t0, t1, t2⟩ := T2.out
 by_cases hle : c ≤ n
 ·refine has_reg_no _ (fun _ _ _ _ _ h => h) _ w1 g0 (g0 + 1) s c n vv mv A q rfl rfl rfl ⟨e1, e2, t1, t2⟩ hlt t0 HA.out (decide_eq_true (by omega)) (fun w' g => HC.out w' (G2.out.trans g)) (fun w' g => HM.out w' (G2.out.trans g)) (fun w3 g3 => ?_)
  simp only [Act.put, List.setIfInBounds_toArray, List.set_cons_zero, List.set_cons_succ]
  go_wp2
  go_ret
  exact ⟨by rw [HB.out, decide_eq_true hle]; rfl, G2.out.trans g3⟩
 ·refine has_reg_yes _ (fun _ _ _ _ _ h => h) _ w1 g0 (g0 + 1) s c n vv mv A q rfl rfl rfl ⟨e1, e2, t1, t2⟩ hlt t0 HA.out (decide_eq_false (by omega)) (fun w' g => HC.out w' (G2.out.trans g)) (fun w' g => HM.out w' (G2.out.trans g)) (fun w3 g3 => ?_)
  simp only [Act.put, List.setIfInBounds_toArray, List.set_cons_zero, List.set_cons_succ]
  go_wp2
  go_ret
  exact ⟨by rw [HB.out, decide_eq_false hle]; rfl, G2.out.trans g3⟩
end Go.Proofs.YtglbnggkkjhokaaGreat
/- More on drawn regions: three operations at once; stores; rows. -/
namespace Go.Proofs.YtglbnggkkjhokaaGreat
open Go.RowKit Rm
section
variable {ops : Array Oper} {Q : Exit → Act → World → Prop} {S : World → Prop}
theorem re_tri {i j k : Nat} {oi oj ok : Oper} {fuel : Nat} {listed : Array Bool} {a : Act} {w : World} (hr : Region.ready .any ops listed = [i, j, k]) (hi : ops[i]? = some oi) (hj : ops[j]? = some oj) (hk : ops[k]? = some ok)
    (hw : Region.wanted oi (yielded ops a.tmps) = true) (hw' : Region.wanted oj (yielded ops a.tmps) = true) (hw'' : Region.wanted ok (yielded ops a.tmps) = true)
    (h : ∀ K : Act → World → Prop, (∀ a w, S w → wpAnyH Tryz.prog .any ops Q S fuel (listed.setIfInBounds i true) a w → K a w) → Oper.wp Tryz.prog oi a w K Q)
    (h' : ∀ K : Act → World → Prop, (∀ a w, S w → wpAnyH Tryz.prog .any ops Q S fuel (listed.setIfInBounds j true) a w → K a w) → Oper.wp Tryz.prog oj a w K Q)
    (h'' : ∀ K : Act → World → Prop, (∀ a w, S w → wpAnyH Tryz.prog .any ops Q S fuel (listed.setIfInBounds k true) a w → K a w) → Oper.wp Tryz.prog ok a w K Q) : wpAnyH Tryz.prog .any ops Q S (fuel + 1) listed a w := by
  refine wpAnyH_ready (rs := [i, j, k]) hr (by simp) (AllReadyH.cons hi (fun K hK => ?_) (AllReadyH.cons hj (fun K hK => ?_) (AllReadyH.cons hk (fun K hK => ?_) AllReadyH.nil)))
  · rw [if_pos hw]
    exact h K (fun a w h1 h2 => hK.out a w h1 (fun _ => h2))
  · rw [if_pos hw']
    exact h' K (fun a w h1 h2 => hK.out a w h1 (fun _ => h2))
  · rw [if_pos hw'']
    exact h'' K (fun a w h1 h2 => hK.out a w h1 (fun _ => h2))
theorem re_wrow {oi : Oper} {a : Act} {w : World} {K : Act → World → Prop} (ty : TypeId) (x y : Operand) (ho : oi.op = .store ty x y) (hd : oi.dst = none)
    (g : Nat) (cells : Array Value) (hx : a.eval x = .pointer (some ⟨g, 0, none⟩)) (hy : a.eval y = .agg cells)
    (t : TypeId) (old : Array Value) (hg : w.heap[g]? = some (.cells old t (0, 0))) (hi : (Tryz.prog.info? ty).map (·.size) = some cells.size)
    (hold : old.size = cells.size) (h1 : cells.all (·.oneCell') = true) (h : K a (w.setRow g cells)) : Oper.wp Tryz.prog oi a w K Q := by
  refine wp_store_row ty x y ho g cells hx hy t old hg hi hold h1 ?_
  rw [hd]
  exact h
structure StepW (ops : Array Oper) (Q : Exit → Act → World → Prop) (S : World → Prop) (i : Nat) (oi : Oper) (fuel : Nat) (listed : Array Bool) (a : Act) (w : World) : Prop where
  out : ∀ K : Act → World → Prop, (∀ a w, S w → wpAnyH Tryz.prog .any ops Q S fuel (listed.setIfInBounds i true) a w → K a w) → Oper.wp Tryz.prog oi a w K Q
theorem st_one {i : Nat} {oi : Oper} {fuel : Nat} {listed : Array Bool} {a : Act} {w : World} (hr : Region.ready .any ops listed = [i]) (hi : ops[i]? = some oi) (hg : oi.guard = none) (h : StepW ops Q S i oi fuel listed a w) : wpAnyH Tryz.prog .any ops Q S (fuel + 1) listed a w := re_one hr hi (re_none _ hg) h.out
theorem st_pair {i j : Nat} {oi oj : Oper} {fuel : Nat} {listed : Array Bool} {a : Act} {w : World} (hr : Region.ready .any ops listed = [i, j]) (hi : ops[i]? = some oi) (hj : ops[j]? = some oj) (hg : oi.guard = none) (hg' : oj.guard = none) (h : StepW ops Q S i oi fuel listed a w) (h' : StepW ops Q S j oj fuel listed a w) : wpAnyH Tryz.prog .any ops Q S (fuel + 1) listed a w := re_pair hr hi hj (re_none _ hg) (re_none _ hg') h.out h'.out
theorem st_tri {i j k : Nat} {oi oj ok : Oper} {fuel : Nat} {listed : Array Bool} {a : Act} {w : World} (hr : Region.ready .any ops listed = [i, j, k]) (hi : ops[i]? = some oi) (hj : ops[j]? = some oj) (hk : ops[k]? = some ok) (hg : oi.guard = none) (hg' : oj.guard = none) (hg'' : ok.guard = none) (h : StepW ops Q S i oi fuel listed a w) (h' : StepW ops Q S j oj fuel listed a w) (h'' : StepW ops Q S k ok fuel listed a w) : wpAnyH Tryz.prog .any ops Q S (fuel + 1) listed a w := re_tri hr hi hj hk (re_none _ hg) (re_none _ hg') (re_none _ hg'') h.out h'.out h''.out
theorem st_call {i : Nat} {oi : Oper} {fuel : Nat} {listed : Array Bool} {a : Act} {w : World} {f : Nat} {args : Array Value} {A : Ending → World → Prop} {d : Nat} (hd : oi.dst = some d) (hrun : (execOp a.eval oi).run Tryz.prog w = .ok (.enter f args) w) (hc : Calls Tryz.prog f args w A)
  (h : ∀ e w', A e w' → ∃ v, e = .returned v ∧ S w' ∧ wpAnyH Tryz.prog .any ops Q S fuel (listed.setIfInBounds i true) (a.put (some d) v) w') : StepW ops Q S i oi fuel listed a w := by
 refine ⟨fun K hK => ?_⟩
 refine re_wcall hd hrun hc ?_
 intro e w' hA
 obtain ⟨v, h1, h2, h3⟩ := h e w' hA
 exact ⟨v, h1, hK _ _ h2 h3⟩
theorem st_val {i : Nat} {oi : Oper} {fuel : Nat} {listed : Array Bool} {a : Act} {w w' : World} {v : Value} {d : Nat} (hd : oi.dst = some d) (hrun : (execOp a.eval oi).run Tryz.prog w = .ok (.value v) w') (hS : S w') (h : wpAnyH Tryz.prog .any ops Q S fuel (listed.setIfInBounds i true) (a.put (some d) v) w') : StepW ops Q S i oi fuel listed a w :=
 ⟨fun K hK => re_wval hd hrun (hK _ _ hS h)⟩
theorem st_row {i : Nat} {oi : Oper} {fuel : Nat} {listed : Array Bool} {a : Act} {w : World} (ty : TypeId) (x y : Operand) (ho : oi.op = .store ty x y) (hd : oi.dst = none)
  (g : Nat) (cells : Array Value) (hx : a.eval x = .pointer (some ⟨g, 0, none⟩)) (hy : a.eval y = .agg cells)
  (t : TypeId) (old : Array Value) (hg : w.heap[g]? = some (.cells old t (0, 0))) (hi : (Tryz.prog.info? ty).map (·.size) = some cells.size)
  (hold : old.size = cells.size) (h1 : cells.all (·.oneCell') = true) (hS : S (w.setRow g cells)) (h : wpAnyH Tryz.prog .any ops Q S fuel (listed.setIfInBounds i true) a (w.setRow g cells)) : StepW ops Q S i oi fuel listed a w :=
 ⟨fun K hK => re_wrow ty x y ho hd g cells hx hy t old hg hi hold h1 (hK _ _ hS h)⟩
end
section
variable (ev : Operand → Value) (d : Option Tmp) (ty : TypeId) (p : String) (af : Array Edge) (g : Option (Nat × Bool)) (w : World)
theorem rr_row (T : TypeId) (x : Operand) (B : Nat) (cs : Array Value) (h : ev x = .pointer (some ⟨B, 0, none⟩)) (hl : (loadVar T ⟨B, 0, none⟩).run Tryz.prog w = .ok (.agg cs) w) : (execOp ev (Oper.mk d (.load T x) ty p af g)).run Tryz.prog w = .ok (.value (.agg cs)) w := by
  unfold execOp
  simp only [h, Instr.loadAt, Instr.sureAddr, Sem.run_bind, Sem.run_pure, Result.andThen_ok, hl]
theorem rr_alloc {t : TypeId} {cs : Array Value} (hz : (Tryz.prog.info? t).bind (·.zero) = some (.agg cs)) : (execOp ev (Oper.mk d (.alloc t) ty p af g)).run Tryz.prog w = .ok (.value (.pointer (some ⟨w.heap.size, 0, none⟩))) (w.alloc (.cells cs t)) := by
 cases hq : Tryz.prog.info? t with
 | none => simp [hq] at hz
 | some i =>
  have hz' : i.zero = some (.agg cs) := by simpa [hq] using hz
  simp [execOp, Instr.alloc, zeroValue, typeInfo, hq, hz', newVar, newRow, Value.cells, go_sem]
end
end Go.Proofs.YtglbnggkkjhokaaGreat
/- know.Join, Meet, Within: the counts of both, over any frame. -/
namespace Go.Proofs.YtglbnggkkjhokaaGreat
open Go.RowKit Rm
def KS2 (g0 g1 : Nat) (vv mv vv' mv' : Value) (x : World) : Prop := x.heap[g0]? = some (.cells #[vv, mv] 75 (0, 0)) ∧ x.heap[g1]? = some (.cells #[vv', mv'] 75 (0, 0))
theorem kc0 {x : World} {g : Nat} {a b : Value} {t : TypeId} {fr : Nat × Nat} (h : x.heap[g]? = some (.cells #[a, b] t fr)) : x.cell? ⟨g, 0, none⟩ = some a := by simp [World.cell?, h]
theorem kc1 {x : World} {g : Nat} {a b : Value} {t : TypeId} {fr : Nat × Nat} (h : x.heap[g]? = some (.cells #[a, b] t fr)) : x.cell? ⟨g, 1, none⟩ = some b := by simp [World.cell?, h]
def zC : Array Value := #[.int .i64 0, .int .i64 0, .int .i64 0, .int .i64 0, .int .i64 0]
theorem counts_zero : (Tryz.prog.info? 237).bind (·.zero) = some (.agg zC) := by kernel_rfl
def jn4_0 : Oper := Oper.mk (some 17) (Op.load 75 (Operand.tmp 2)) 75 "know.go:58" #[] none
def jn4_1 : Oper := Oper.mk (some 18) (Op.call (Call.mk (Callee.value (Operand.func 172)) #[Operand.tmp 17] #[75])) 237 "know.go:58" #[Edge.mk 0 Ground.data] none
def jn4_2 : Oper := Oper.mk (some 19) (Op.load 75 (Operand.tmp 3)) 75 "know.go:58" #[] none
def jn4_3 : Oper := Oper.mk (some 20) (Op.call (Call.mk (Callee.value (Operand.func 172)) #[Operand.tmp 19] #[75])) 237 "know.go:58" #[Edge.mk 2 Ground.data, Edge.mk 1 Ground.chain] none
def jn4_4 : Oper := Oper.mk (some 7) (Op.alloc 237) 0 "know.go:58" #[] none
def jn4_5 : Oper := Oper.mk (some 8) (Op.alloc 237) 0 "know.go:58" #[] none
def jn4_6 : Oper := Oper.mk none (Op.store 237 (Operand.tmp 7) (Operand.tmp 18)) 0 "know.go:58" #[Edge.mk 4 Ground.data, Edge.mk 1 Ground.data, Edge.mk 3 Ground.chain, Edge.mk 0 Ground.phase, Edge.mk 1 Ground.phase, Edge.mk 2 (Ground.textOnly Departure.lateStores), Edge.mk 3 (Ground.textOnly Departure.lateStoresUnsure), Edge.mk 4 Ground.phase, Edge.mk 5 Ground.phase] none
def jn4_7 : Oper := Oper.mk none (Op.store 237 (Operand.tmp 8) (Operand.tmp 20)) 0 "know.go:58" #[Edge.mk 5 Ground.data, Edge.mk 3 Ground.data, Edge.mk 6 Ground.chain, Edge.mk 0 Ground.phase, Edge.mk 1 Ground.phase, Edge.mk 2 Ground.phase, Edge.mk 3 Ground.phase, Edge.mk 4 Ground.phase, Edge.mk 5 Ground.phase, Edge.mk 6 Ground.phase] none
def jn4_Ops : Array Oper := #[jn4_0, jn4_1, jn4_2, jn4_3, jn4_4, jn4_5, jn4_6, jn4_7]
theorem jn4_reg (Q : Exit → Act → World → Prop) (hQ : ∀ c a d v w, Q (.panic c) (Act.put a (some d) v) w → Q (.panic c) a w) (a : Act) (w : World) (g0 g1 : Nat) (vv mv vv' mv' : Value) (A A' : Array Value)
  (hsz : a.tmps.size = 44) (h2 : a.eval (.tmp 2) = .pointer (some ⟨g0, 0, none⟩)) (h3 : a.eval (.tmp 3) = .pointer (some ⟨g1, 0, none⟩))
  (hS0 : KS2 g0 g1 vv mv vv' mv' w) (hl0 : g0 < w.heap.size) (hl1 : g1 < w.heap.size)
  (hA5 : A.size = 5) (hA1 : A.all (·.oneCell') = true) (hB5 : A'.size = 5) (hB1 : A'.all (·.oneCell') = true)
  (HC : ∀ w', Gr w w' → Calls Tryz.prog 172 #[.agg #[vv, mv]] w' fun e w'' => e = .returned (.agg A) ∧ Gr w' w'')
  (HC' : ∀ w', Gr w w' → Calls Tryz.prog 172 #[.agg #[vv', mv']] w' fun e w'' => e = .returned (.agg A') ∧ Gr w' w'')
  (h : ∀ w' b7 b8, Gr w w' → w.heap.size ≤ b7 → w.heap.size ≤ b8 → b7 ≠ b8 → w'.heap[b7]? = some (.cells A 237 (0, 0)) → w'.heap[b8]? = some (.cells A' 237 (0, 0)) → Q .normal (Act.put (Act.put (Act.put (Act.put (Act.put (Act.put a (some 17) (.agg #[vv, mv])) (some 19) (.agg #[vv', mv'])) (some 18) (.agg A)) (some 20) (.agg A')) (some 7) (.pointer (some ⟨b7, 0, none⟩))) (some 8) (.pointer (some ⟨b8, 0, none⟩))) w') : (Code.region 4 jn4_Ops true).wp Tryz.prog Q a w := by
 have keep : ∀ x, Gr w x → KS2 g0 g1 vv mv vv' mv' x := fun x gx => ⟨(Below.block gx g0 hl0).trans hS0.1, (Below.block gx g1 hl1).trans hS0.2⟩
 have szA : (Tryz.prog.info? 237).map (·.size) = some A.size := by rw [hA5]; exact counts_size
 have szB : (Tryz.prog.info? 237).map (·.size) = some A'.size := by rw [hB5]; exact counts_size
 have fin : ∀ (W : World) (b7 b8 : Nat) (L : Array Bool), L = #[true, true, true, true, true, true, false, false] → Gr w W → w.heap.size ≤ b7 → w.heap.size ≤ b8 → b7 ≠ b8 → W.heap[b7]? = some (.cells zC 237 (0, 0)) → W.heap[b8]? = some (.cells zC 237 (0, 0)) →
   wpAnyH Tryz.prog .any jn4_Ops Q (KS2 g0 g1 vv mv vv' mv') 2 L (Act.put (Act.put (Act.put (Act.put (Act.put (Act.put a (some 17) (.agg #[vv, mv])) (some 19) (.agg #[vv', mv'])) (some 18) (.agg A)) (some 20) (.agg A')) (some 7) (.pointer (some ⟨b7, 0, none⟩))) (some 8) (.pointer (some ⟨b8, 0, none⟩))) W := by
  intro W b7 b8 L hL hg h7 h8 hne e7 e8
  subst hL
  have l7 := (Array.getElem?_eq_some_iff.1 e7).1
  have l8 := (Array.getElem?_eq_some_iff.1 e8).1
  refine st_one (i := 6) (oi := jn4_6) (by kernel_rfl) rfl rfl ?_
  have gA : Gr w (W.setRow b7 A) := below_setRow hg h7 A
  have e8' : (W.setRow b7 A).heap[b8]? = some (.cells zC 237 (0, 0)) := (setRow_other W b7 b8 A (Ne.symm hne)).trans e8
  have e7' : (W.setRow b7 A).heap[b7]? = some (.cells A 237 (0, 0)) := setRow_heap W b7 _ A _ _ e7
  refine st_row 237 (.tmp 7) (.tmp 18) rfl rfl b7 A (by simp [re_ne, re_eq, re_size, re_const, hsz, h2, h3]) (by simp [re_ne, re_eq, re_size, re_const, hsz, h2, h3]) 237 zC e7 szA (by rw [hA5]; rfl) hA1 (keep _ gA) ?_
  refine st_one (i := 7) (oi := jn4_7) (by kernel_rfl) rfl rfl ?_
  have gB : Gr w ((W.setRow b7 A).setRow b8 A') := below_setRow gA h8 A'
  have e7'' : ((W.setRow b7 A).setRow b8 A').heap[b7]? = some (.cells A 237 (0, 0)) := (setRow_other _ b8 b7 A' hne).trans e7'
  refine st_row 237 (.tmp 8) (.tmp 20) rfl rfl b8 A' (by simp [re_ne, re_eq, re_size, re_const, hsz, h2, h3]) (by simp [re_ne, re_eq, re_size, re_const, hsz, h2, h3]) 237 zC e8' szB (by rw [hB5]; rfl) hB1 (keep _ gB) ?_
  exact wpAnyH_done (by kernel_rfl) (h _ b7 b8 gB h7 h8 hne e7'' (setRow_heap _ b8 _ A' _ _ e8')) _
 refine wp_region_held_drew (S := KS2 g0 g1 vv mv vv' mv') (by kernel_rfl) hS0 (fun hHeld => ?_)
 show wpAnyH Tryz.prog .any jn4_Ops Q _ 8 (Array.replicate 8 false) a w.drew
 refine re_tk (i := 0) (oi := jn4_0) (v := .agg #[vv, mv]) (d := 17) hQ rfl rfl (by kernel_rfl) (by kernel_rfl) (by kernel_rfl) (Or.inl ⟨re_none _ rfl, fun wx hS => rr_lK _ _ _ _ _ _ _ _ g0 vv mv (by simp [re_ne, re_eq, re_size, re_const, hsz, h2, h3]) (kc0 hS.1) (kc1 hS.1)⟩) hHeld ?_
 refine re_tk (i := 2) (oi := jn4_2) (v := .agg #[vv', mv']) (d := 19) hQ rfl rfl (by kernel_rfl) (by kernel_rfl) (by kernel_rfl) (Or.inl ⟨re_none _ rfl, fun wx hS => rr_lK _ _ _ _ _ _ _ _ g1 vv' mv' (by simp [re_ne, re_eq, re_size, re_const, hsz, h2, h3]) (kc0 hS.2) (kc1 hS.2)⟩) hHeld ?_
 have G0 : Gr w w.drew := (Gr.refl w).drew
 refine st_tri (i := 1) (j := 4) (k := 5) (oi := jn4_1) (oj := jn4_4) (ok := jn4_5) (by kernel_rfl) rfl rfl rfl rfl rfl rfl ?_ ?_ ?_
 ·refine st_call (d := 18) rfl (rr_enter1 _ _ _ _ _ _ _ 172 _ (.agg #[vv, mv]) _ (by simp [re_ne, re_eq, re_size, re_const, hsz, h2, h3]) rfl (rr_enter_of Tryz.func172 (by kernel_rfl) (by kernel_rfl) _ _)) (HC w.drew G0) ?_
  rintro e w1 ⟨rfl, g1x⟩
  have G1 := Gr.trans G0 g1x
  have s1 : w.drew.heap.size ≤ w1.heap.size := g1x.le
  refine ⟨_, rfl, keep _ G1, ?_⟩
  refine st_tri (i := 3) (j := 4) (k := 5) (oi := jn4_3) (oj := jn4_4) (ok := jn4_5) (by kernel_rfl) rfl rfl rfl rfl rfl rfl ?_ ?_ ?_
  ·refine st_call (d := 20) rfl (rr_enter1 _ _ _ _ _ _ _ 172 _ (.agg #[vv', mv']) _ (by simp [re_ne, re_eq, re_size, re_const, hsz, h2, h3]) rfl (rr_enter_of Tryz.func172 (by kernel_rfl) (by kernel_rfl) _ _)) (HC' w1 G1) ?_
   rintro e w2 ⟨rfl, g2x⟩
   have G2 := Gr.trans G1 g2x
   have s2 : w1.heap.size ≤ w2.heap.size := g2x.le
   refine ⟨_, rfl, keep _ G2, ?_⟩
   refine st_pair (i := 4) (j := 5) (oi := jn4_4) (oj := jn4_5) (by kernel_rfl) rfl rfl rfl rfl ?_ ?_
   ·have G3 := Gr.alloc G2 (.cells zC 237)
    have f3_4 := al_new w2 (.cells zC 237) _ rfl
    have t3 : w.heap.size ≤ w2.heap.size := G2.le
    have u3 : w2.heap.size = w2.heap.size := rfl
    refine st_val (d := 7) rfl (rr_alloc _ _ _ _ _ _ _ counts_zero) (keep _ G3) ?_
    refine st_one (i := 5) (oi := jn4_5) (by kernel_rfl) rfl rfl ?_
    have G4 := Gr.alloc G3 (.cells zC 237)
    have f4_4 := (Below.heap_alloc (w2.alloc (.cells zC 237)) (.cells zC 237) _ (Array.getElem?_eq_some_iff.1 f3_4).1).trans f3_4
    have f4_5 := al_new (w2.alloc (.cells zC 237)) (.cells zC 237) _ rfl
    have t4 : w.heap.size ≤ (w2.alloc (.cells zC 237)).heap.size := G3.le
    have u4 : (w2.alloc (.cells zC 237)).heap.size = (w2.alloc (.cells zC 237)).heap.size := rfl
    have v4_4 : w2.heap.size < (w2.alloc (.cells zC 237)).heap.size := (Array.getElem?_eq_some_iff.1 f3_4).1
    refine st_val (d := 8) rfl (rr_alloc _ _ _ _ _ _ _ counts_zero) (keep _ G4) ?_
    exact fin ((w2.alloc (.cells zC 237)).alloc (.cells zC 237)) w2.heap.size (w2.alloc (.cells zC 237)).heap.size _ rfl G4 t3 t4 (by have := u3; have := u4; omega) f4_4 f4_5
   ·have G5 := Gr.alloc G2 (.cells zC 237)
    have f5_5 := al_new w2 (.cells zC 237) _ rfl
    have t5 : w.heap.size ≤ w2.heap.size := G2.le
    have u5 : w2.heap.size = w2.heap.size := rfl
    refine st_val (d := 8) rfl (rr_alloc _ _ _ _ _ _ _ counts_zero) (keep _ G5) ?_
    refine st_one (i := 4) (oi := jn4_4) (by kernel_rfl) rfl rfl ?_
    have G6 := Gr.alloc G5 (.cells zC 237)
    have f6_5 := (Below.heap_alloc (w2.alloc (.cells zC 237)) (.cells zC 237) _ (Array.getElem?_eq_some_iff.1 f5_5).1).trans f5_5
    have f6_4 := al_new (w2.alloc (.cells zC 237)) (.cells zC 237) _ rfl
    have t6 : w.heap.size ≤ (w2.alloc (.cells zC 237)).heap.size := G5.le
    have u6 : (w2.alloc (.cells zC 237)).heap.size = (w2.alloc (.cells zC 237)).heap.size := rfl
    have v6_5 : w2.heap.size < (w2.alloc (.cells zC 237)).heap.size := (Array.getElem?_eq_some_iff.1 f5_5).1
    refine st_val (d := 7) rfl (rr_alloc _ _ _ _ _ _ _ counts_zero) (keep _ G6) ?_
    rw [re_comm _ 8 7 _ _ (by decide)]
    exact fin ((w2.alloc (.cells zC 237)).alloc (.cells zC 237)) (w2.alloc (.cells zC 237)).heap.size w2.heap.size _ rfl G6 t6 t5 (by have := u6; have := u5; omega) f6_4 f6_5
  ·have G7 := Gr.alloc G1 (.cells zC 237)
   have f7_4 := al_new w1 (.cells zC 237) _ rfl
   have t7 : w.heap.size ≤ w1.heap.size := G1.le
   have u7 : w1.heap.size = w1.heap.size := rfl
   refine st_val (d := 7) rfl (rr_alloc _ _ _ _ _ _ _ counts_zero) (keep _ G7) ?_
   refine st_pair (i := 3) (j := 5) (oi := jn4_3) (oj := jn4_5) (by kernel_rfl) rfl rfl rfl rfl ?_ ?_
   ·refine st_call (d := 20) rfl (rr_enter1 _ _ _ _ _ _ _ 172 _ (.agg #[vv', mv']) _ (by simp [re_ne, re_eq, re_size, re_const, hsz, h2, h3]) rfl (rr_enter_of Tryz.func172 (by kernel_rfl) (by kernel_rfl) _ _)) (HC' (w1.alloc (.cells zC 237)) G7) ?_
    rintro e w8 ⟨rfl, g8x⟩
    have G8 := Gr.trans G7 g8x
    have f8_4 := (Below.block g8x _ (Array.getElem?_eq_some_iff.1 f7_4).1).trans f7_4
    have s8 : (w1.alloc (.cells zC 237)).heap.size ≤ w8.heap.size := g8x.le
    refine ⟨_, rfl, keep _ G8, ?_⟩
    refine st_one (i := 5) (oi := jn4_5) (by kernel_rfl) rfl rfl ?_
    have G9 := Gr.alloc G8 (.cells zC 237)
    have f9_4 := (Below.heap_alloc w8 (.cells zC 237) _ (Array.getElem?_eq_some_iff.1 f8_4).1).trans f8_4
    have f9_5 := al_new w8 (.cells zC 237) _ rfl
    have t9 : w.heap.size ≤ w8.heap.size := G8.le
    have u9 : w8.heap.size = w8.heap.size := rfl
    have v9_4 : w1.heap.size < w8.heap.size := (Array.getElem?_eq_some_iff.1 f8_4).1
    refine st_val (d := 8) rfl (rr_alloc _ _ _ _ _ _ _ counts_zero) (keep _ G9) ?_
    rw [re_comm _ 7 20 _ _ (by decide)]
    exact fin (w8.alloc (.cells zC 237)) w1.heap.size w8.heap.size _ rfl G9 t7 t9 (by have := u7; have := u9; omega) f9_4 f9_5
   ·have G10 := Gr.alloc G7 (.cells zC 237)
    have f10_4 := (Below.heap_alloc (w1.alloc (.cells zC 237)) (.cells zC 237) _ (Array.getElem?_eq_some_iff.1 f7_4).1).trans f7_4
    have f10_5 := al_new (w1.alloc (.cells zC 237)) (.cells zC 237) _ rfl
    have t10 : w.heap.size ≤ (w1.alloc (.cells zC 237)).heap.size := G7.le
    have u10 : (w1.alloc (.cells zC 237)).heap.size = (w1.alloc (.cells zC 237)).heap.size := rfl
    have v10_4 : w1.heap.size < (w1.alloc (.cells zC 237)).heap.size := (Array.getElem?_eq_some_iff.1 f7_4).1
    refine st_val (d := 8) rfl (rr_alloc _ _ _ _ _ _ _ counts_zero) (keep _ G10) ?_
    refine st_one (i := 3) (oi := jn4_3) (by kernel_rfl) rfl rfl ?_
    refine st_call (d := 20) rfl (rr_enter1 _ _ _ _ _ _ _ 172 _ (.agg #[vv', mv']) _ (by simp [re_ne, re_eq, re_size, re_const, hsz, h2, h3]) rfl (rr_enter_of Tryz.func172 (by kernel_rfl) (by kernel_rfl) _ _)) (HC' ((w1.alloc (.cells zC 237)).alloc (.cells zC 237)) G10) ?_
    rintro e w11 ⟨rfl, g11x⟩
    have G11 := Gr.trans G10 g11x
    have f11_4 := (Below.block g11x _ (Array.getElem?_eq_some_iff.1 f10_4).1).trans f10_4
    have f11_5 := (Below.block g11x _ (Array.getElem?_eq_some_iff.1 f10_5).1).trans f10_5
    have s11 : ((w1.alloc (.cells zC 237)).alloc (.cells zC 237)).heap.size ≤ w11.heap.size := g11x.le
    refine ⟨_, rfl, keep _ G11, ?_⟩
    rw [re_comm _ 8 20 _ _ (by decide), re_comm _ 7 20 _ _ (by decide)]
    exact fin w11 w1.heap.size (w1.alloc (.cells zC 237)).heap.size _ rfl G11 t7 t10 (by have := u7; have := u10; omega) f11_4 f11_5
  ·have G12 := Gr.alloc G1 (.cells zC 237)
   have f12_5 := al_new w1 (.cells zC 237) _ rfl
   have t12 : w.heap.size ≤ w1.heap.size := G1.le
   have u12 : w1.heap.size = w1.heap.size := rfl
   refine st_val (d := 8) rfl (rr_alloc _ _ _ _ _ _ _ counts_zero) (keep _ G12) ?_
   refine st_pair (i := 3) (j := 4) (oi := jn4_3) (oj := jn4_4) (by kernel_rfl) rfl rfl rfl rfl ?_ ?_
   ·refine st_call (d := 20) rfl (rr_enter1 _ _ _ _ _ _ _ 172 _ (.agg #[vv', mv']) _ (by simp [re_ne, re_eq, re_size, re_const, hsz, h2, h3]) rfl (rr_enter_of Tryz.func172 (by kernel_rfl) (by kernel_rfl) _ _)) (HC' (w1.alloc (.cells zC 237)) G12) ?_
    rintro e w13 ⟨rfl, g13x⟩
    have G13 := Gr.trans G12 g13x
    have f13_5 := (Below.block g13x _ (Array.getElem?_eq_some_iff.1 f12_5).1).trans f12_5
    have s13 : (w1.alloc (.cells zC 237)).heap.size ≤ w13.heap.size := g13x.le
    refine ⟨_, rfl, keep _ G13, ?_⟩
    refine st_one (i := 4) (oi := jn4_4) (by kernel_rfl) rfl rfl ?_
    have G14 := Gr.alloc G13 (.cells zC 237)
    have f14_5 := (Below.heap_alloc w13 (.cells zC 237) _ (Array.getElem?_eq_some_iff.1 f13_5).1).trans f13_5
    have f14_4 := al_new w13 (.cells zC 237) _ rfl
    have t14 : w.heap.size ≤ w13.heap.size := G13.le
    have u14 : w13.heap.size = w13.heap.size := rfl
    have v14_5 : w1.heap.size < w13.heap.size := (Array.getElem?_eq_some_iff.1 f13_5).1
    refine st_val (d := 7) rfl (rr_alloc _ _ _ _ _ _ _ counts_zero) (keep _ G14) ?_
    rw [re_comm _ 8 20 _ _ (by decide), re_comm _ 8 7 _ _ (by decide)]
    exact fin (w13.alloc (.cells zC 237)) w13.heap.size w1.heap.size _ rfl G14 t14 t12 (by have := u14; have := u12; omega) f14_4 f14_5
   ·have G15 := Gr.alloc G12 (.cells zC 237)
    have f15_5 := (Below.heap_alloc (w1.alloc (.cells zC 237)) (.cells zC 237) _ (Array.getElem?_eq_some_iff.1 f12_5).1).trans f12_5
    have f15_4 := al_new (w1.alloc (.cells zC 237)) (.cells zC 237) _ rfl
    have t15 : w.heap.size ≤ (w1.alloc (.cells zC 237)).heap.size := G12.le
    have u15 : (w1.alloc (.cells zC 237)).heap.size = (w1.alloc (.cells zC 237)).heap.size := rfl
    have v15_5 : w1.heap.size < (w1.alloc (.cells zC 237)).heap.size := (Array.getElem?_eq_some_iff.1 f12_5).1
    refine st_val (d := 7) rfl (rr_alloc _ _ _ _ _ _ _ counts_zero) (keep _ G15) ?_
    refine st_one (i := 3) (oi := jn4_3) (by kernel_rfl) rfl rfl ?_
    refine st_call (d := 20) rfl (rr_enter1 _ _ _ _ _ _ _ 172 _ (.agg #[vv', mv']) _ (by simp [re_ne, re_eq, re_size, re_const, hsz, h2, h3]) rfl (rr_enter_of Tryz.func172 (by kernel_rfl) (by kernel_rfl) _ _)) (HC' ((w1.alloc (.cells zC 237)).alloc (.cells zC 237)) G15) ?_
    rintro e w16 ⟨rfl, g16x⟩
    have G16 := Gr.trans G15 g16x
    have f16_5 := (Below.block g16x _ (Array.getElem?_eq_some_iff.1 f15_5).1).trans f15_5
    have f16_4 := (Below.block g16x _ (Array.getElem?_eq_some_iff.1 f15_4).1).trans f15_4
    have s16 : ((w1.alloc (.cells zC 237)).alloc (.cells zC 237)).heap.size ≤ w16.heap.size := g16x.le
    refine ⟨_, rfl, keep _ G16, ?_⟩
    rw [re_comm _ 8 7 _ _ (by decide), re_comm _ 8 20 _ _ (by decide), re_comm _ 7 20 _ _ (by decide)]
    exact fin w16 (w1.alloc (.cells zC 237)).heap.size w1.heap.size _ rfl G16 t15 t12 (by have := u15; have := u12; omega) f16_4 f16_5
 ·have G17 := Gr.alloc G0 (.cells zC 237)
  have f17_4 := al_new w.drew (.cells zC 237) _ rfl
  have t17 : w.heap.size ≤ w.drew.heap.size := G0.le
  have u17 : w.drew.heap.size = w.drew.heap.size := rfl
  refine st_val (d := 7) rfl (rr_alloc _ _ _ _ _ _ _ counts_zero) (keep _ G17) ?_
  refine st_pair (i := 1) (j := 5) (oi := jn4_1) (oj := jn4_5) (by kernel_rfl) rfl rfl rfl rfl ?_ ?_
  ·refine st_call (d := 18) rfl (rr_enter1 _ _ _ _ _ _ _ 172 _ (.agg #[vv, mv]) _ (by simp [re_ne, re_eq, re_size, re_const, hsz, h2, h3]) rfl (rr_enter_of Tryz.func172 (by kernel_rfl) (by kernel_rfl) _ _)) (HC (w.drew.alloc (.cells zC 237)) G17) ?_
   rintro e w18 ⟨rfl, g18x⟩
   have G18 := Gr.trans G17 g18x
   have f18_4 := (Below.block g18x _ (Array.getElem?_eq_some_iff.1 f17_4).1).trans f17_4
   have s18 : (w.drew.alloc (.cells zC 237)).heap.size ≤ w18.heap.size := g18x.le
   refine ⟨_, rfl, keep _ G18, ?_⟩
   refine st_pair (i := 3) (j := 5) (oi := jn4_3) (oj := jn4_5) (by kernel_rfl) rfl rfl rfl rfl ?_ ?_
   ·refine st_call (d := 20) rfl (rr_enter1 _ _ _ _ _ _ _ 172 _ (.agg #[vv', mv']) _ (by simp [re_ne, re_eq, re_size, re_const, hsz, h2, h3]) rfl (rr_enter_of Tryz.func172 (by kernel_rfl) (by kernel_rfl) _ _)) (HC' w18 G18) ?_
    rintro e w19 ⟨rfl, g19x⟩
    have G19 := Gr.trans G18 g19x
    have f19_4 := (Below.block g19x _ (Array.getElem?_eq_some_iff.1 f18_4).1).trans f18_4
    have s19 : w18.heap.size ≤ w19.heap.size := g19x.le
    refine ⟨_, rfl, keep _ G19, ?_⟩
    refine st_one (i := 5) (oi := jn4_5) (by kernel_rfl) rfl rfl ?_
    have G20 := Gr.alloc G19 (.cells zC 237)
    have f20_4 := (Below.heap_alloc w19 (.cells zC 237) _ (Array.getElem?_eq_some_iff.1 f19_4).1).trans f19_4
    have f20_5 := al_new w19 (.cells zC 237) _ rfl
    have t20 : w.heap.size ≤ w19.heap.size := G19.le
    have u20 : w19.heap.size = w19.heap.size := rfl
    have v20_4 : w.drew.heap.size < w19.heap.size := (Array.getElem?_eq_some_iff.1 f19_4).1
    refine st_val (d := 8) rfl (rr_alloc _ _ _ _ _ _ _ counts_zero) (keep _ G20) ?_
    rw [re_comm _ 7 18 _ _ (by decide), re_comm _ 7 20 _ _ (by decide)]
    exact fin (w19.alloc (.cells zC 237)) w.drew.heap.size w19.heap.size _ rfl G20 t17 t20 (by have := u17; have := u20; omega) f20_4 f20_5
   ·have G21 := Gr.alloc G18 (.cells zC 237)
    have f21_4 := (Below.heap_alloc w18 (.cells zC 237) _ (Array.getElem?_eq_some_iff.1 f18_4).1).trans f18_4
    have f21_5 := al_new w18 (.cells zC 237) _ rfl
    have t21 : w.heap.size ≤ w18.heap.size := G18.le
    have u21 : w18.heap.size = w18.heap.size := rfl
    have v21_4 : w.drew.heap.size < w18.heap.size := (Array.getElem?_eq_some_iff.1 f18_4).1
    refine st_val (d := 8) rfl (rr_alloc _ _ _ _ _ _ _ counts_zero) (keep _ G21) ?_
    refine st_one (i := 3) (oi := jn4_3) (by kernel_rfl) rfl rfl ?_
    refine st_call (d := 20) rfl (rr_enter1 _ _ _ _ _ _ _ 172 _ (.agg #[vv', mv']) _ (by simp [re_ne, re_eq, re_size, re_const, hsz, h2, h3]) rfl (rr_enter_of Tryz.func172 (by kernel_rfl) (by kernel_rfl) _ _)) (HC' (w18.alloc (.cells zC 237)) G21) ?_
    rintro e w22 ⟨rfl, g22x⟩
    have G22 := Gr.trans G21 g22x
    have f22_4 := (Below.block g22x _ (Array.getElem?_eq_some_iff.1 f21_4).1).trans f21_4
    have f22_5 := (Below.block g22x _ (Array.getElem?_eq_some_iff.1 f21_5).1).trans f21_5
    have s22 : (w18.alloc (.cells zC 237)).heap.size ≤ w22.heap.size := g22x.le
    refine ⟨_, rfl, keep _ G22, ?_⟩
    rw [re_comm _ 7 18 _ _ (by decide), re_comm _ 8 20 _ _ (by decide), re_comm _ 7 20 _ _ (by decide)]
    exact fin w22 w.drew.heap.size w18.heap.size _ rfl G22 t17 t21 (by have := u17; have := u21; omega) f22_4 f22_5
  ·have G23 := Gr.alloc G17 (.cells zC 237)
   have f23_4 := (Below.heap_alloc (w.drew.alloc (.cells zC 237)) (.cells zC 237) _ (Array.getElem?_eq_some_iff.1 f17_4).1).trans f17_4
   have f23_5 := al_new (w.drew.alloc (.cells zC 237)) (.cells zC 237) _ rfl
   have t23 : w.heap.size ≤ (w.drew.alloc (.cells zC 237)).heap.size := G17.le
   have u23 : (w.drew.alloc (.cells zC 237)).heap.size = (w.drew.alloc (.cells zC 237)).heap.size := rfl
   have v23_4 : w.drew.heap.size < (w.drew.alloc (.cells zC 237)).heap.size := (Array.getElem?_eq_some_iff.1 f17_4).1
   refine st_val (d := 8) rfl (rr_alloc _ _ _ _ _ _ _ counts_zero) (keep _ G23) ?_
   refine st_one (i := 1) (oi := jn4_1) (by kernel_rfl) rfl rfl ?_
   refine st_call (d := 18) rfl (rr_enter1 _ _ _ _ _ _ _ 172 _ (.agg #[vv, mv]) _ (by simp [re_ne, re_eq, re_size, re_const, hsz, h2, h3]) rfl (rr_enter_of Tryz.func172 (by kernel_rfl) (by kernel_rfl) _ _)) (HC ((w.drew.alloc (.cells zC 237)).alloc (.cells zC 237)) G23) ?_
   rintro e w24 ⟨rfl, g24x⟩
   have G24 := Gr.trans G23 g24x
   have f24_4 := (Below.block g24x _ (Array.getElem?_eq_some_iff.1 f23_4).1).trans f23_4
   have f24_5 := (Below.block g24x _ (Array.getElem?_eq_some_iff.1 f23_5).1).trans f23_5
   have s24 : ((w.drew.alloc (.cells zC 237)).alloc (.cells zC 237)).heap.size ≤ w24.heap.size := g24x.le
   refine ⟨_, rfl, keep _ G24, ?_⟩
   refine st_one (i := 3) (oi := jn4_3) (by kernel_rfl) rfl rfl ?_
   refine st_call (d := 20) rfl (rr_enter1 _ _ _ _ _ _ _ 172 _ (.agg #[vv', mv']) _ (by simp [re_ne, re_eq, re_size, re_const, hsz, h2, h3]) rfl (rr_enter_of Tryz.func172 (by kernel_rfl) (by kernel_rfl) _ _)) (HC' w24 G24) ?_
   rintro e w25 ⟨rfl, g25x⟩
   have G25 := Gr.trans G24 g25x
   have f25_4 := (Below.block g25x _ (Array.getElem?_eq_some_iff.1 f24_4).1).trans f24_4
   have f25_5 := (Below.block g25x _ (Array.getElem?_eq_some_iff.1 f24_5).1).trans f24_5
   have s25 : w24.heap.size ≤ w25.heap.size := g25x.le
   refine ⟨_, rfl, keep _ G25, ?_⟩
   rw [re_comm _ 8 18 _ _ (by decide), re_comm _ 8 20 _ _ (by decide), re_comm _ 7 18 _ _ (by decide), re_comm _ 7 20 _ _ (by decide)]
   exact fin w25 w.drew.heap.size (w.drew.alloc (.cells zC 237)).heap.size _ rfl G25 t17 t23 (by have := u17; have := u23; omega) f25_4 f25_5
 ·have G26 := Gr.alloc G0 (.cells zC 237)
  have f26_5 := al_new w.drew (.cells zC 237) _ rfl
  have t26 : w.heap.size ≤ w.drew.heap.size := G0.le
  have u26 : w.drew.heap.size = w.drew.heap.size := rfl
  refine st_val (d := 8) rfl (rr_alloc _ _ _ _ _ _ _ counts_zero) (keep _ G26) ?_
  refine st_pair (i := 1) (j := 4) (oi := jn4_1) (oj := jn4_4) (by kernel_rfl) rfl rfl rfl rfl ?_ ?_
  ·refine st_call (d := 18) rfl (rr_enter1 _ _ _ _ _ _ _ 172 _ (.agg #[vv, mv]) _ (by simp [re_ne, re_eq, re_size, re_const, hsz, h2, h3]) rfl (rr_enter_of Tryz.func172 (by kernel_rfl) (by kernel_rfl) _ _)) (HC (w.drew.alloc (.cells zC 237)) G26) ?_
   rintro e w27 ⟨rfl, g27x⟩
   have G27 := Gr.trans G26 g27x
   have f27_5 := (Below.block g27x _ (Array.getElem?_eq_some_iff.1 f26_5).1).trans f26_5
   have s27 : (w.drew.alloc (.cells zC 237)).heap.size ≤ w27.heap.size := g27x.le
   refine ⟨_, rfl, keep _ G27, ?_⟩
   refine st_pair (i := 3) (j := 4) (oi := jn4_3) (oj := jn4_4) (by kernel_rfl) rfl rfl rfl rfl ?_ ?_
   ·refine st_call (d := 20) rfl (rr_enter1 _ _ _ _ _ _ _ 172 _ (.agg #[vv', mv']) _ (by simp [re_ne, re_eq, re_size, re_const, hsz, h2, h3]) rfl (rr_enter_of Tryz.func172 (by kernel_rfl) (by kernel_rfl) _ _)) (HC' w27 G27) ?_
    rintro e w28 ⟨rfl, g28x⟩
    have G28 := Gr.trans G27 g28x
    have f28_5 := (Below.block g28x _ (Array.getElem?_eq_some_iff.1 f27_5).1).trans f27_5
    have s28 : w27.heap.size ≤ w28.heap.size := g28x.le
    refine ⟨_, rfl, keep _ G28, ?_⟩
    refine st_one (i := 4) (oi := jn4_4) (by kernel_rfl) rfl rfl ?_
    have G29 := Gr.alloc G28 (.cells zC 237)
    have f29_5 := (Below.heap_alloc w28 (.cells zC 237) _ (Array.getElem?_eq_some_iff.1 f28_5).1).trans f28_5
    have f29_4 := al_new w28 (.cells zC 237) _ rfl
    have t29 : w.heap.size ≤ w28.heap.size := G28.le
    have u29 : w28.heap.size = w28.heap.size := rfl
    have v29_5 : w.drew.heap.size < w28.heap.size := (Array.getElem?_eq_some_iff.1 f28_5).1
    refine st_val (d := 7) rfl (rr_alloc _ _ _ _ _ _ _ counts_zero) (keep _ G29) ?_
    rw [re_comm _ 8 18 _ _ (by decide), re_comm _ 8 20 _ _ (by decide), re_comm _ 8 7 _ _ (by decide)]
    exact fin (w28.alloc (.cells zC 237)) w28.heap.size w.drew.heap.size _ rfl G29 t29 t26 (by have := u29; have := u26; omega) f29_4 f29_5
   ·have G30 := Gr.alloc G27 (.cells zC 237)
    have f30_5 := (Below.heap_alloc w27 (.cells zC 237) _ (Array.getElem?_eq_some_iff.1 f27_5).1).trans f27_5
    have f30_4 := al_new w27 (.cells zC 237) _ rfl
    have t30 : w.heap.size ≤ w27.heap.size := G27.le
    have u30 : w27.heap.size = w27.heap.size := rfl
    have v30_5 : w.drew.heap.size < w27.heap.size := (Array.getElem?_eq_some_iff.1 f27_5).1
    refine st_val (d := 7) rfl (rr_alloc _ _ _ _ _ _ _ counts_zero) (keep _ G30) ?_
    refine st_one (i := 3) (oi := jn4_3) (by kernel_rfl) rfl rfl ?_
    refine st_call (d := 20) rfl (rr_enter1 _ _ _ _ _ _ _ 172 _ (.agg #[vv', mv']) _ (by simp [re_ne, re_eq, re_size, re_const, hsz, h2, h3]) rfl (rr_enter_of Tryz.func172 (by kernel_rfl) (by kernel_rfl) _ _)) (HC' (w27.alloc (.cells zC 237)) G30) ?_
    rintro e w31 ⟨rfl, g31x⟩
    have G31 := Gr.trans G30 g31x
    have f31_5 := (Below.block g31x _ (Array.getElem?_eq_some_iff.1 f30_5).1).trans f30_5
    have f31_4 := (Below.block g31x _ (Array.getElem?_eq_some_iff.1 f30_4).1).trans f30_4
    have s31 : (w27.alloc (.cells zC 237)).heap.size ≤ w31.heap.size := g31x.le
    refine ⟨_, rfl, keep _ G31, ?_⟩
    rw [re_comm _ 8 18 _ _ (by decide), re_comm _ 8 7 _ _ (by decide), re_comm _ 8 20 _ _ (by decide), re_comm _ 7 20 _ _ (by decide)]
    exact fin w31 w27.heap.size w.drew.heap.size _ rfl G31 t30 t26 (by have := u30; have := u26; omega) f31_4 f31_5
  ·have G32 := Gr.alloc G26 (.cells zC 237)
   have f32_5 := (Below.heap_alloc (w.drew.alloc (.cells zC 237)) (.cells zC 237) _ (Array.getElem?_eq_some_iff.1 f26_5).1).trans f26_5
   have f32_4 := al_new (w.drew.alloc (.cells zC 237)) (.cells zC 237) _ rfl
   have t32 : w.heap.size ≤ (w.drew.alloc (.cells zC 237)).heap.size := G26.le
   have u32 : (w.drew.alloc (.cells zC 237)).heap.size = (w.drew.alloc (.cells zC 237)).heap.size := rfl
   have v32_5 : w.drew.heap.size < (w.drew.alloc (.cells zC 237)).heap.size := (Array.getElem?_eq_some_iff.1 f26_5).1
   refine st_val (d := 7) rfl (rr_alloc _ _ _ _ _ _ _ counts_zero) (keep _ G32) ?_
   refine st_one (i := 1) (oi := jn4_1) (by kernel_rfl) rfl rfl ?_
   refine st_call (d := 18) rfl (rr_enter1 _ _ _ _ _ _ _ 172 _ (.agg #[vv, mv]) _ (by simp [re_ne, re_eq, re_size, re_const, hsz, h2, h3]) rfl (rr_enter_of Tryz.func172 (by kernel_rfl) (by kernel_rfl) _ _)) (HC ((w.drew.alloc (.cells zC 237)).alloc (.cells zC 237)) G32) ?_
   rintro e w33 ⟨rfl, g33x⟩
   have G33 := Gr.trans G32 g33x
   have f33_5 := (Below.block g33x _ (Array.getElem?_eq_some_iff.1 f32_5).1).trans f32_5
   have f33_4 := (Below.block g33x _ (Array.getElem?_eq_some_iff.1 f32_4).1).trans f32_4
   have s33 : ((w.drew.alloc (.cells zC 237)).alloc (.cells zC 237)).heap.size ≤ w33.heap.size := g33x.le
   refine ⟨_, rfl, keep _ G33, ?_⟩
   refine st_one (i := 3) (oi := jn4_3) (by kernel_rfl) rfl rfl ?_
   refine st_call (d := 20) rfl (rr_enter1 _ _ _ _ _ _ _ 172 _ (.agg #[vv', mv']) _ (by simp [re_ne, re_eq, re_size, re_const, hsz, h2, h3]) rfl (rr_enter_of Tryz.func172 (by kernel_rfl) (by kernel_rfl) _ _)) (HC' w33 G33) ?_
   rintro e w34 ⟨rfl, g34x⟩
   have G34 := Gr.trans G33 g34x
   have f34_5 := (Below.block g34x _ (Array.getElem?_eq_some_iff.1 f33_5).1).trans f33_5
   have f34_4 := (Below.block g34x _ (Array.getElem?_eq_some_iff.1 f33_4).1).trans f33_4
   have s34 : w33.heap.size ≤ w34.heap.size := g34x.le
   refine ⟨_, rfl, keep _ G34, ?_⟩
   rw [re_comm _ 8 7 _ _ (by decide), re_comm _ 8 18 _ _ (by decide), re_comm _ 8 20 _ _ (by decide), re_comm _ 7 18 _ _ (by decide), re_comm _ 7 20 _ _ (by decide)]
   exact fin w34 (w.drew.alloc (.cells zC 237)).heap.size w.drew.heap.size _ rfl G34 t32 t26 (by have := u32; have := u26; omega) f34_4 f34_5
def wi4_0 : Oper := Oper.mk (some 16) (Op.load 75 (Operand.tmp 2)) 75 "know.go:86" #[] none
def wi4_1 : Oper := Oper.mk (some 17) (Op.call (Call.mk (Callee.value (Operand.func 172)) #[Operand.tmp 16] #[75])) 237 "know.go:86" #[Edge.mk 0 Ground.data] none
def wi4_2 : Oper := Oper.mk (some 18) (Op.load 75 (Operand.tmp 3)) 75 "know.go:86" #[] none
def wi4_3 : Oper := Oper.mk (some 19) (Op.call (Call.mk (Callee.value (Operand.func 172)) #[Operand.tmp 18] #[75])) 237 "know.go:86" #[Edge.mk 2 Ground.data, Edge.mk 1 Ground.chain] none
def wi4_4 : Oper := Oper.mk (some 7) (Op.alloc 237) 0 "know.go:86" #[] none
def wi4_5 : Oper := Oper.mk (some 8) (Op.alloc 237) 0 "know.go:86" #[] none
def wi4_6 : Oper := Oper.mk none (Op.store 237 (Operand.tmp 7) (Operand.tmp 17)) 0 "know.go:86" #[Edge.mk 4 Ground.data, Edge.mk 1 Ground.data, Edge.mk 3 Ground.chain, Edge.mk 0 Ground.phase, Edge.mk 1 Ground.phase, Edge.mk 2 (Ground.textOnly Departure.lateStores), Edge.mk 3 (Ground.textOnly Departure.lateStoresUnsure), Edge.mk 4 Ground.phase, Edge.mk 5 Ground.phase] none
def wi4_7 : Oper := Oper.mk none (Op.store 237 (Operand.tmp 8) (Operand.tmp 19)) 0 "know.go:86" #[Edge.mk 5 Ground.data, Edge.mk 3 Ground.data, Edge.mk 6 Ground.chain, Edge.mk 0 Ground.phase, Edge.mk 1 Ground.phase, Edge.mk 2 Ground.phase, Edge.mk 3 Ground.phase, Edge.mk 4 Ground.phase, Edge.mk 5 Ground.phase, Edge.mk 6 Ground.phase] none
def wi4_Ops : Array Oper := #[wi4_0, wi4_1, wi4_2, wi4_3, wi4_4, wi4_5, wi4_6, wi4_7]
theorem wi4_reg (Q : Exit → Act → World → Prop) (hQ : ∀ c a d v w, Q (.panic c) (Act.put a (some d) v) w → Q (.panic c) a w) (a : Act) (w : World) (g0 g1 : Nat) (vv mv vv' mv' : Value) (A A' : Array Value)
  (hsz : a.tmps.size = 40) (h2 : a.eval (.tmp 2) = .pointer (some ⟨g0, 0, none⟩)) (h3 : a.eval (.tmp 3) = .pointer (some ⟨g1, 0, none⟩))
  (hS0 : KS2 g0 g1 vv mv vv' mv' w) (hl0 : g0 < w.heap.size) (hl1 : g1 < w.heap.size)
  (hA5 : A.size = 5) (hA1 : A.all (·.oneCell') = true) (hB5 : A'.size = 5) (hB1 : A'.all (·.oneCell') = true)
  (HC : ∀ w', Gr w w' → Calls Tryz.prog 172 #[.agg #[vv, mv]] w' fun e w'' => e = .returned (.agg A) ∧ Gr w' w'')
  (HC' : ∀ w', Gr w w' → Calls Tryz.prog 172 #[.agg #[vv', mv']] w' fun e w'' => e = .returned (.agg A') ∧ Gr w' w'')
  (h : ∀ w' b7 b8, Gr w w' → w.heap.size ≤ b7 → w.heap.size ≤ b8 → b7 ≠ b8 → w'.heap[b7]? = some (.cells A 237 (0, 0)) → w'.heap[b8]? = some (.cells A' 237 (0, 0)) → Q .normal (Act.put (Act.put (Act.put (Act.put (Act.put (Act.put a (some 16) (.agg #[vv, mv])) (some 18) (.agg #[vv', mv'])) (some 17) (.agg A)) (some 19) (.agg A')) (some 7) (.pointer (some ⟨b7, 0, none⟩))) (some 8) (.pointer (some ⟨b8, 0, none⟩))) w') : (Code.region 4 wi4_Ops true).wp Tryz.prog Q a w := by
 have keep : ∀ x, Gr w x → KS2 g0 g1 vv mv vv' mv' x := fun x gx => ⟨(Below.block gx g0 hl0).trans hS0.1, (Below.block gx g1 hl1).trans hS0.2⟩
 have szA : (Tryz.prog.info? 237).map (·.size) = some A.size := by rw [hA5]; exact counts_size
 have szB : (Tryz.prog.info? 237).map (·.size) = some A'.size := by rw [hB5]; exact counts_size
 have fin : ∀ (W : World) (b7 b8 : Nat) (L : Array Bool), L = #[true, true, true, true, true, true, false, false] → Gr w W → w.heap.size ≤ b7 → w.heap.size ≤ b8 → b7 ≠ b8 → W.heap[b7]? = some (.cells zC 237 (0, 0)) → W.heap[b8]? = some (.cells zC 237 (0, 0)) →
   wpAnyH Tryz.prog .any wi4_Ops Q (KS2 g0 g1 vv mv vv' mv') 2 L (Act.put (Act.put (Act.put (Act.put (Act.put (Act.put a (some 16) (.agg #[vv, mv])) (some 18) (.agg #[vv', mv'])) (some 17) (.agg A)) (some 19) (.agg A')) (some 7) (.pointer (some ⟨b7, 0, none⟩))) (some 8) (.pointer (some ⟨b8, 0, none⟩))) W := by
  intro W b7 b8 L hL hg h7 h8 hne e7 e8
  subst hL
  have l7 := (Array.getElem?_eq_some_iff.1 e7).1
  have l8 := (Array.getElem?_eq_some_iff.1 e8).1
  refine st_one (i := 6) (oi := wi4_6) (by kernel_rfl) rfl rfl ?_
  have gA : Gr w (W.setRow b7 A) := below_setRow hg h7 A
  have e8' : (W.setRow b7 A).heap[b8]? = some (.cells zC 237 (0, 0)) := (setRow_other W b7 b8 A (Ne.symm hne)).trans e8
  have e7' : (W.setRow b7 A).heap[b7]? = some (.cells A 237 (0, 0)) := setRow_heap W b7 _ A _ _ e7
  refine st_row 237 (.tmp 7) (.tmp 17) rfl rfl b7 A (by simp [re_ne, re_eq, re_size, re_const, hsz, h2, h3]) (by simp [re_ne, re_eq, re_size, re_const, hsz, h2, h3]) 237 zC e7 szA (by rw [hA5]; rfl) hA1 (keep _ gA) ?_
  refine st_one (i := 7) (oi := wi4_7) (by kernel_rfl) rfl rfl ?_
  have gB : Gr w ((W.setRow b7 A).setRow b8 A') := below_setRow gA h8 A'
  have e7'' : ((W.setRow b7 A).setRow b8 A').heap[b7]? = some (.cells A 237 (0, 0)) := (setRow_other _ b8 b7 A' hne).trans e7'
  refine st_row 237 (.tmp 8) (.tmp 19) rfl rfl b8 A' (by simp [re_ne, re_eq, re_size, re_const, hsz, h2, h3]) (by simp [re_ne, re_eq, re_size, re_const, hsz, h2, h3]) 237 zC e8' szB (by rw [hB5]; rfl) hB1 (keep _ gB) ?_
  exact wpAnyH_done (by kernel_rfl) (h _ b7 b8 gB h7 h8 hne e7'' (setRow_heap _ b8 _ A' _ _ e8')) _
 refine wp_region_held_drew (S := KS2 g0 g1 vv mv vv' mv') (by kernel_rfl) hS0 (fun hHeld => ?_)
 show wpAnyH Tryz.prog .any wi4_Ops Q _ 8 (Array.replicate 8 false) a w.drew
 refine re_tk (i := 0) (oi := wi4_0) (v := .agg #[vv, mv]) (d := 16) hQ rfl rfl (by kernel_rfl) (by kernel_rfl) (by kernel_rfl) (Or.inl ⟨re_none _ rfl, fun wx hS => rr_lK _ _ _ _ _ _ _ _ g0 vv mv (by simp [re_ne, re_eq, re_size, re_const, hsz, h2, h3]) (kc0 hS.1) (kc1 hS.1)⟩) hHeld ?_
 refine re_tk (i := 2) (oi := wi4_2) (v := .agg #[vv', mv']) (d := 18) hQ rfl rfl (by kernel_rfl) (by kernel_rfl) (by kernel_rfl) (Or.inl ⟨re_none _ rfl, fun wx hS => rr_lK _ _ _ _ _ _ _ _ g1 vv' mv' (by simp [re_ne, re_eq, re_size, re_const, hsz, h2, h3]) (kc0 hS.2) (kc1 hS.2)⟩) hHeld ?_
 have G0 : Gr w w.drew := (Gr.refl w).drew
 refine st_tri (i := 1) (j := 4) (k := 5) (oi := wi4_1) (oj := wi4_4) (ok := wi4_5) (by kernel_rfl) rfl rfl rfl rfl rfl rfl ?_ ?_ ?_
 ·refine st_call (d := 17) rfl (rr_enter1 _ _ _ _ _ _ _ 172 _ (.agg #[vv, mv]) _ (by simp [re_ne, re_eq, re_size, re_const, hsz, h2, h3]) rfl (rr_enter_of Tryz.func172 (by kernel_rfl) (by kernel_rfl) _ _)) (HC w.drew G0) ?_
  rintro e w1 ⟨rfl, g1x⟩
  have G1 := Gr.trans G0 g1x
  have s1 : w.drew.heap.size ≤ w1.heap.size := g1x.le
  refine ⟨_, rfl, keep _ G1, ?_⟩
  refine st_tri (i := 3) (j := 4) (k := 5) (oi := wi4_3) (oj := wi4_4) (ok := wi4_5) (by kernel_rfl) rfl rfl rfl rfl rfl rfl ?_ ?_ ?_
  ·refine st_call (d := 19) rfl (rr_enter1 _ _ _ _ _ _ _ 172 _ (.agg #[vv', mv']) _ (by simp [re_ne, re_eq, re_size, re_const, hsz, h2, h3]) rfl (rr_enter_of Tryz.func172 (by kernel_rfl) (by kernel_rfl) _ _)) (HC' w1 G1) ?_
   rintro e w2 ⟨rfl, g2x⟩
   have G2 := Gr.trans G1 g2x
   have s2 : w1.heap.size ≤ w2.heap.size := g2x.le
   refine ⟨_, rfl, keep _ G2, ?_⟩
   refine st_pair (i := 4) (j := 5) (oi := wi4_4) (oj := wi4_5) (by kernel_rfl) rfl rfl rfl rfl ?_ ?_
   ·have G3 := Gr.alloc G2 (.cells zC 237)
    have f3_4 := al_new w2 (.cells zC 237) _ rfl
    have t3 : w.heap.size ≤ w2.heap.size := G2.le
    have u3 : w2.heap.size = w2.heap.size := rfl
    refine st_val (d := 7) rfl (rr_alloc _ _ _ _ _ _ _ counts_zero) (keep _ G3) ?_
    refine st_one (i := 5) (oi := wi4_5) (by kernel_rfl) rfl rfl ?_
    have G4 := Gr.alloc G3 (.cells zC 237)
    have f4_4 := (Below.heap_alloc (w2.alloc (.cells zC 237)) (.cells zC 237) _ (Array.getElem?_eq_some_iff.1 f3_4).1).trans f3_4
    have f4_5 := al_new (w2.alloc (.cells zC 237)) (.cells zC 237) _ rfl
    have t4 : w.heap.size ≤ (w2.alloc (.cells zC 237)).heap.size := G3.le
    have u4 : (w2.alloc (.cells zC 237)).heap.size = (w2.alloc (.cells zC 237)).heap.size := rfl
    have v4_4 : w2.heap.size < (w2.alloc (.cells zC 237)).heap.size := (Array.getElem?_eq_some_iff.1 f3_4).1
    refine st_val (d := 8) rfl (rr_alloc _ _ _ _ _ _ _ counts_zero) (keep _ G4) ?_
    exact fin ((w2.alloc (.cells zC 237)).alloc (.cells zC 237)) w2.heap.size (w2.alloc (.cells zC 237)).heap.size _ rfl G4 t3 t4 (by have := u3; have := u4; omega) f4_4 f4_5
   ·have G5 := Gr.alloc G2 (.cells zC 237)
    have f5_5 := al_new w2 (.cells zC 237) _ rfl
    have t5 : w.heap.size ≤ w2.heap.size := G2.le
    have u5 : w2.heap.size = w2.heap.size := rfl
    refine st_val (d := 8) rfl (rr_alloc _ _ _ _ _ _ _ counts_zero) (keep _ G5) ?_
    refine st_one (i := 4) (oi := wi4_4) (by kernel_rfl) rfl rfl ?_
    have G6 := Gr.alloc G5 (.cells zC 237)
    have f6_5 := (Below.heap_alloc (w2.alloc (.cells zC 237)) (.cells zC 237) _ (Array.getElem?_eq_some_iff.1 f5_5).1).trans f5_5
    have f6_4 := al_new (w2.alloc (.cells zC 237)) (.cells zC 237) _ rfl
    have t6 : w.heap.size ≤ (w2.alloc (.cells zC 237)).heap.size := G5.le
    have u6 : (w2.alloc (.cells zC 237)).heap.size = (w2.alloc (.cells zC 237)).heap.size := rfl
    have v6_5 : w2.heap.size < (w2.alloc (.cells zC 237)).heap.size := (Array.getElem?_eq_some_iff.1 f5_5).1
    refine st_val (d := 7) rfl (rr_alloc _ _ _ _ _ _ _ counts_zero) (keep _ G6) ?_
    rw [re_comm _ 8 7 _ _ (by decide)]
    exact fin ((w2.alloc (.cells zC 237)).alloc (.cells zC 237)) (w2.alloc (.cells zC 237)).heap.size w2.heap.size _ rfl G6 t6 t5 (by have := u6; have := u5; omega) f6_4 f6_5
  ·have G7 := Gr.alloc G1 (.cells zC 237)
   have f7_4 := al_new w1 (.cells zC 237) _ rfl
   have t7 : w.heap.size ≤ w1.heap.size := G1.le
   have u7 : w1.heap.size = w1.heap.size := rfl
   refine st_val (d := 7) rfl (rr_alloc _ _ _ _ _ _ _ counts_zero) (keep _ G7) ?_
   refine st_pair (i := 3) (j := 5) (oi := wi4_3) (oj := wi4_5) (by kernel_rfl) rfl rfl rfl rfl ?_ ?_
   ·refine st_call (d := 19) rfl (rr_enter1 _ _ _ _ _ _ _ 172 _ (.agg #[vv', mv']) _ (by simp [re_ne, re_eq, re_size, re_const, hsz, h2, h3]) rfl (rr_enter_of Tryz.func172 (by kernel_rfl) (by kernel_rfl) _ _)) (HC' (w1.alloc (.cells zC 237)) G7) ?_
    rintro e w8 ⟨rfl, g8x⟩
    have G8 := Gr.trans G7 g8x
    have f8_4 := (Below.block g8x _ (Array.getElem?_eq_some_iff.1 f7_4).1).trans f7_4
    have s8 : (w1.alloc (.cells zC 237)).heap.size ≤ w8.heap.size := g8x.le
    refine ⟨_, rfl, keep _ G8, ?_⟩
    refine st_one (i := 5) (oi := wi4_5) (by kernel_rfl) rfl rfl ?_
    have G9 := Gr.alloc G8 (.cells zC 237)
    have f9_4 := (Below.heap_alloc w8 (.cells zC 237) _ (Array.getElem?_eq_some_iff.1 f8_4).1).trans f8_4
    have f9_5 := al_new w8 (.cells zC 237) _ rfl
    have t9 : w.heap.size ≤ w8.heap.size := G8.le
    have u9 : w8.heap.size = w8.heap.size := rfl
    have v9_4 : w1.heap.size < w8.heap.size := (Array.getElem?_eq_some_iff.1 f8_4).1
    refine st_val (d := 8) rfl (rr_alloc _ _ _ _ _ _ _ counts_zero) (keep _ G9) ?_
    rw [re_comm _ 7 19 _ _ (by decide)]
    exact fin (w8.alloc (.cells zC 237)) w1.heap.size w8.heap.size _ rfl G9 t7 t9 (by have := u7; have := u9; omega) f9_4 f9_5
   ·have G10 := Gr.alloc G7 (.cells zC 237)
    have f10_4 := (Below.heap_alloc (w1.alloc (.cells zC 237)) (.cells zC 237) _ (Array.getElem?_eq_some_iff.1 f7_4).1).trans f7_4
    have f10_5 := al_new (w1.alloc (.cells zC 237)) (.cells zC 237) _ rfl
    have t10 : w.heap.size ≤ (w1.alloc (.cells zC 237)).heap.size := G7.le
    have u10 : (w1.alloc (.cells zC 237)).heap.size = (w1.alloc (.cells zC 237)).heap.size := rfl
    have v10_4 : w1.heap.size < (w1.alloc (.cells zC 237)).heap.size := (Array.getElem?_eq_some_iff.1 f7_4).1
    refine st_val (d := 8) rfl (rr_alloc _ _ _ _ _ _ _ counts_zero) (keep _ G10) ?_
    refine st_one (i := 3) (oi := wi4_3) (by kernel_rfl) rfl rfl ?_
    refine st_call (d := 19) rfl (rr_enter1 _ _ _ _ _ _ _ 172 _ (.agg #[vv', mv']) _ (by simp [re_ne, re_eq, re_size, re_const, hsz, h2, h3]) rfl (rr_enter_of Tryz.func172 (by kernel_rfl) (by kernel_rfl) _ _)) (HC' ((w1.alloc (.cells zC 237)).alloc (.cells zC 237)) G10) ?_
    rintro e w11 ⟨rfl, g11x⟩
    have G11 := Gr.trans G10 g11x
    have f11_4 := (Below.block g11x _ (Array.getElem?_eq_some_iff.1 f10_4).1).trans f10_4
    have f11_5 := (Below.block g11x _ (Array.getElem?_eq_some_iff.1 f10_5).1).trans f10_5
    have s11 : ((w1.alloc (.cells zC 237)).alloc (.cells zC 237)).heap.size ≤ w11.heap.size := g11x.le
    refine ⟨_, rfl, keep _ G11, ?_⟩
    rw [re_comm _ 8 19 _ _ (by decide), re_comm _ 7 19 _ _ (by decide)]
    exact fin w11 w1.heap.size (w1.alloc (.cells zC 237)).heap.size _ rfl G11 t7 t10 (by have := u7; have := u10; omega) f11_4 f11_5
  ·have G12 := Gr.alloc G1 (.cells zC 237)
   have f12_5 := al_new w1 (.cells zC 237) _ rfl
   have t12 : w.heap.size ≤ w1.heap.size := G1.le
   have u12 : w1.heap.size = w1.heap.size := rfl
   refine st_val (d := 8) rfl (rr_alloc _ _ _ _ _ _ _ counts_zero) (keep _ G12) ?_
   refine st_pair (i := 3) (j := 4) (oi := wi4_3) (oj := wi4_4) (by kernel_rfl) rfl rfl rfl rfl ?_ ?_
   ·refine st_call (d := 19) rfl (rr_enter1 _ _ _ _ _ _ _ 172 _ (.agg #[vv', mv']) _ (by simp [re_ne, re_eq, re_size, re_const, hsz, h2, h3]) rfl (rr_enter_of Tryz.func172 (by kernel_rfl) (by kernel_rfl) _ _)) (HC' (w1.alloc (.cells zC 237)) G12) ?_
    rintro e w13 ⟨rfl, g13x⟩
    have G13 := Gr.trans G12 g13x
    have f13_5 := (Below.block g13x _ (Array.getElem?_eq_some_iff.1 f12_5).1).trans f12_5
    have s13 : (w1.alloc (.cells zC 237)).heap.size ≤ w13.heap.size := g13x.le
    refine ⟨_, rfl, keep _ G13, ?_⟩
    refine st_one (i := 4) (oi := wi4_4) (by kernel_rfl) rfl rfl ?_
    have G14 := Gr.alloc G13 (.cells zC 237)
    have f14_5 := (Below.heap_alloc w13 (.cells zC 237) _ (Array.getElem?_eq_some_iff.1 f13_5).1).trans f13_5
    have f14_4 := al_new w13 (.cells zC 237) _ rfl
    have t14 : w.heap.size ≤ w13.heap.size := G13.le
    have u14 : w13.heap.size = w13.heap.size := rfl
    have v14_5 : w1.heap.size < w13.heap.size := (Array.getElem?_eq_some_iff.1 f13_5).1
    refine st_val (d := 7) rfl (rr_alloc _ _ _ _ _ _ _ counts_zero) (keep _ G14) ?_
    rw [re_comm _ 8 19 _ _ (by decide), re_comm _ 8 7 _ _ (by decide)]
    exact fin (w13.alloc (.cells zC 237)) w13.heap.size w1.heap.size _ rfl G14 t14 t12 (by have := u14; have := u12; omega) f14_4 f14_5
   ·have G15 := Gr.alloc G12 (.cells zC 237)
    have f15_5 := (Below.heap_alloc (w1.alloc (.cells zC 237)) (.cells zC 237) _ (Array.getElem?_eq_some_iff.1 f12_5).1).trans f12_5
    have f15_4 := al_new (w1.alloc (.cells zC 237)) (.cells zC 237) _ rfl
    have t15 : w.heap.size ≤ (w1.alloc (.cells zC 237)).heap.size := G12.le
    have u15 : (w1.alloc (.cells zC 237)).heap.size = (w1.alloc (.cells zC 237)).heap.size := rfl
    have v15_5 : w1.heap.size < (w1.alloc (.cells zC 237)).heap.size := (Array.getElem?_eq_some_iff.1 f12_5).1
    refine st_val (d := 7) rfl (rr_alloc _ _ _ _ _ _ _ counts_zero) (keep _ G15) ?_
    refine st_one (i := 3) (oi := wi4_3) (by kernel_rfl) rfl rfl ?_
    refine st_call (d := 19) rfl (rr_enter1 _ _ _ _ _ _ _ 172 _ (.agg #[vv', mv']) _ (by simp [re_ne, re_eq, re_size, re_const, hsz, h2, h3]) rfl (rr_enter_of Tryz.func172 (by kernel_rfl) (by kernel_rfl) _ _)) (HC' ((w1.alloc (.cells zC 237)).alloc (.cells zC 237)) G15) ?_
    rintro e w16 ⟨rfl, g16x⟩
    have G16 := Gr.trans G15 g16x
    have f16_5 := (Below.block g16x _ (Array.getElem?_eq_some_iff.1 f15_5).1).trans f15_5
    have f16_4 := (Below.block g16x _ (Array.getElem?_eq_some_iff.1 f15_4).1).trans f15_4
    have s16 : ((w1.alloc (.cells zC 237)).alloc (.cells zC 237)).heap.size ≤ w16.heap.size := g16x.le
    refine ⟨_, rfl, keep _ G16, ?_⟩
    rw [re_comm _ 8 7 _ _ (by decide), re_comm _ 8 19 _ _ (by decide), re_comm _ 7 19 _ _ (by decide)]
    exact fin w16 (w1.alloc (.cells zC 237)).heap.size w1.heap.size _ rfl G16 t15 t12 (by have := u15; have := u12; omega) f16_4 f16_5
 ·have G17 := Gr.alloc G0 (.cells zC 237)
  have f17_4 := al_new w.drew (.cells zC 237) _ rfl
  have t17 : w.heap.size ≤ w.drew.heap.size := G0.le
  have u17 : w.drew.heap.size = w.drew.heap.size := rfl
  refine st_val (d := 7) rfl (rr_alloc _ _ _ _ _ _ _ counts_zero) (keep _ G17) ?_
  refine st_pair (i := 1) (j := 5) (oi := wi4_1) (oj := wi4_5) (by kernel_rfl) rfl rfl rfl rfl ?_ ?_
  ·refine st_call (d := 17) rfl (rr_enter1 _ _ _ _ _ _ _ 172 _ (.agg #[vv, mv]) _ (by simp [re_ne, re_eq, re_size, re_const, hsz, h2, h3]) rfl (rr_enter_of Tryz.func172 (by kernel_rfl) (by kernel_rfl) _ _)) (HC (w.drew.alloc (.cells zC 237)) G17) ?_
   rintro e w18 ⟨rfl, g18x⟩
   have G18 := Gr.trans G17 g18x
   have f18_4 := (Below.block g18x _ (Array.getElem?_eq_some_iff.1 f17_4).1).trans f17_4
   have s18 : (w.drew.alloc (.cells zC 237)).heap.size ≤ w18.heap.size := g18x.le
   refine ⟨_, rfl, keep _ G18, ?_⟩
   refine st_pair (i := 3) (j := 5) (oi := wi4_3) (oj := wi4_5) (by kernel_rfl) rfl rfl rfl rfl ?_ ?_
   ·refine st_call (d := 19) rfl (rr_enter1 _ _ _ _ _ _ _ 172 _ (.agg #[vv', mv']) _ (by simp [re_ne, re_eq, re_size, re_const, hsz, h2, h3]) rfl (rr_enter_of Tryz.func172 (by kernel_rfl) (by kernel_rfl) _ _)) (HC' w18 G18) ?_
    rintro e w19 ⟨rfl, g19x⟩
    have G19 := Gr.trans G18 g19x
    have f19_4 := (Below.block g19x _ (Array.getElem?_eq_some_iff.1 f18_4).1).trans f18_4
    have s19 : w18.heap.size ≤ w19.heap.size := g19x.le
    refine ⟨_, rfl, keep _ G19, ?_⟩
    refine st_one (i := 5) (oi := wi4_5) (by kernel_rfl) rfl rfl ?_
    have G20 := Gr.alloc G19 (.cells zC 237)
    have f20_4 := (Below.heap_alloc w19 (.cells zC 237) _ (Array.getElem?_eq_some_iff.1 f19_4).1).trans f19_4
    have f20_5 := al_new w19 (.cells zC 237) _ rfl
    have t20 : w.heap.size ≤ w19.heap.size := G19.le
    have u20 : w19.heap.size = w19.heap.size := rfl
    have v20_4 : w.drew.heap.size < w19.heap.size := (Array.getElem?_eq_some_iff.1 f19_4).1
    refine st_val (d := 8) rfl (rr_alloc _ _ _ _ _ _ _ counts_zero) (keep _ G20) ?_
    rw [re_comm _ 7 17 _ _ (by decide), re_comm _ 7 19 _ _ (by decide)]
    exact fin (w19.alloc (.cells zC 237)) w.drew.heap.size w19.heap.size _ rfl G20 t17 t20 (by have := u17; have := u20; omega) f20_4 f20_5
   ·have G21 := Gr.alloc G18 (.cells zC 237)
    have f21_4 := (Below.heap_alloc w18 (.cells zC 237) _ (Array.getElem?_eq_some_iff.1 f18_4).1).trans f18_4
    have f21_5 := al_new w18 (.cells zC 237) _ rfl
    have t21 : w.heap.size ≤ w18.heap.size := G18.le
    have u21 : w18.heap.size = w18.heap.size := rfl
    have v21_4 : w.drew.heap.size < w18.heap.size := (Array.getElem?_eq_some_iff.1 f18_4).1
    refine st_val (d := 8) rfl (rr_alloc _ _ _ _ _ _ _ counts_zero) (keep _ G21) ?_
    refine st_one (i := 3) (oi := wi4_3) (by kernel_rfl) rfl rfl ?_
    refine st_call (d := 19) rfl (rr_enter1 _ _ _ _ _ _ _ 172 _ (.agg #[vv', mv']) _ (by simp [re_ne, re_eq, re_size, re_const, hsz, h2, h3]) rfl (rr_enter_of Tryz.func172 (by kernel_rfl) (by kernel_rfl) _ _)) (HC' (w18.alloc (.cells zC 237)) G21) ?_
    rintro e w22 ⟨rfl, g22x⟩
    have G22 := Gr.trans G21 g22x
    have f22_4 := (Below.block g22x _ (Array.getElem?_eq_some_iff.1 f21_4).1).trans f21_4
    have f22_5 := (Below.block g22x _ (Array.getElem?_eq_some_iff.1 f21_5).1).trans f21_5
    have s22 : (w18.alloc (.cells zC 237)).heap.size ≤ w22.heap.size := g22x.le
    refine ⟨_, rfl, keep _ G22, ?_⟩
    rw [re_comm _ 7 17 _ _ (by decide), re_comm _ 8 19 _ _ (by decide), re_comm _ 7 19 _ _ (by decide)]
    exact fin w22 w.drew.heap.size w18.heap.size _ rfl G22 t17 t21 (by have := u17; have := u21; omega) f22_4 f22_5
  ·have G23 := Gr.alloc G17 (.cells zC 237)
   have f23_4 := (Below.heap_alloc (w.drew.alloc (.cells zC 237)) (.cells zC 237) _ (Array.getElem?_eq_some_iff.1 f17_4).1).trans f17_4
   have f23_5 := al_new (w.drew.alloc (.cells zC 237)) (.cells zC 237) _ rfl
   have t23 : w.heap.size ≤ (w.drew.alloc (.cells zC 237)).heap.size := G17.le
   have u23 : (w.drew.alloc (.cells zC 237)).heap.size = (w.drew.alloc (.cells zC 237)).heap.size := rfl
   have v23_4 : w.drew.heap.size < (w.drew.alloc (.cells zC 237)).heap.size := (Array.getElem?_eq_some_iff.1 f17_4).1
   refine st_val (d := 8) rfl (rr_alloc _ _ _ _ _ _ _ counts_zero) (keep _ G23) ?_
   refine st_one (i := 1) (oi := wi4_1) (by kernel_rfl) rfl rfl ?_
   refine st_call (d := 17) rfl (rr_enter1 _ _ _ _ _ _ _ 172 _ (.agg #[vv, mv]) _ (by simp [re_ne, re_eq, re_size, re_const, hsz, h2, h3]) rfl (rr_enter_of Tryz.func172 (by kernel_rfl) (by kernel_rfl) _ _)) (HC ((w.drew.alloc (.cells zC 237)).alloc (.cells zC 237)) G23) ?_
   rintro e w24 ⟨rfl, g24x⟩
   have G24 := Gr.trans G23 g24x
   have f24_4 := (Below.block g24x _ (Array.getElem?_eq_some_iff.1 f23_4).1).trans f23_4
   have f24_5 := (Below.block g24x _ (Array.getElem?_eq_some_iff.1 f23_5).1).trans f23_5
   have s24 : ((w.drew.alloc (.cells zC 237)).alloc (.cells zC 237)).heap.size ≤ w24.heap.size := g24x.le
   refine ⟨_, rfl, keep _ G24, ?_⟩
   refine st_one (i := 3) (oi := wi4_3) (by kernel_rfl) rfl rfl ?_
   refine st_call (d := 19) rfl (rr_enter1 _ _ _ _ _ _ _ 172 _ (.agg #[vv', mv']) _ (by simp [re_ne, re_eq, re_size, re_const, hsz, h2, h3]) rfl (rr_enter_of Tryz.func172 (by kernel_rfl) (by kernel_rfl) _ _)) (HC' w24 G24) ?_
   rintro e w25 ⟨rfl, g25x⟩
   have G25 := Gr.trans G24 g25x
   have f25_4 := (Below.block g25x _ (Array.getElem?_eq_some_iff.1 f24_4).1).trans f24_4
   have f25_5 := (Below.block g25x _ (Array.getElem?_eq_some_iff.1 f24_5).1).trans f24_5
   have s25 : w24.heap.size ≤ w25.heap.size := g25x.le
   refine ⟨_, rfl, keep _ G25, ?_⟩
   rw [re_comm _ 8 17 _ _ (by decide), re_comm _ 8 19 _ _ (by decide), re_comm _ 7 17 _ _ (by decide), re_comm _ 7 19 _ _ (by decide)]
   exact fin w25 w.drew.heap.size (w.drew.alloc (.cells zC 237)).heap.size _ rfl G25 t17 t23 (by have := u17; have := u23; omega) f25_4 f25_5
 ·have G26 := Gr.alloc G0 (.cells zC 237)
  have f26_5 := al_new w.drew (.cells zC 237) _ rfl
  have t26 : w.heap.size ≤ w.drew.heap.size := G0.le
  have u26 : w.drew.heap.size = w.drew.heap.size := rfl
  refine st_val (d := 8) rfl (rr_alloc _ _ _ _ _ _ _ counts_zero) (keep _ G26) ?_
  refine st_pair (i := 1) (j := 4) (oi := wi4_1) (oj := wi4_4) (by kernel_rfl) rfl rfl rfl rfl ?_ ?_
  ·refine st_call (d := 17) rfl (rr_enter1 _ _ _ _ _ _ _ 172 _ (.agg #[vv, mv]) _ (by simp [re_ne, re_eq, re_size, re_const, hsz, h2, h3]) rfl (rr_enter_of Tryz.func172 (by kernel_rfl) (by kernel_rfl) _ _)) (HC (w.drew.alloc (.cells zC 237)) G26) ?_
   rintro e w27 ⟨rfl, g27x⟩
   have G27 := Gr.trans G26 g27x
   have f27_5 := (Below.block g27x _ (Array.getElem?_eq_some_iff.1 f26_5).1).trans f26_5
   have s27 : (w.drew.alloc (.cells zC 237)).heap.size ≤ w27.heap.size := g27x.le
   refine ⟨_, rfl, keep _ G27, ?_⟩
   refine st_pair (i := 3) (j := 4) (oi := wi4_3) (oj := wi4_4) (by kernel_rfl) rfl rfl rfl rfl ?_ ?_
   ·refine st_call (d := 19) rfl (rr_enter1 _ _ _ _ _ _ _ 172 _ (.agg #[vv', mv']) _ (by simp [re_ne, re_eq, re_size, re_const, hsz, h2, h3]) rfl (rr_enter_of Tryz.func172 (by kernel_rfl) (by kernel_rfl) _ _)) (HC' w27 G27) ?_
    rintro e w28 ⟨rfl, g28x⟩
    have G28 := Gr.trans G27 g28x
    have f28_5 := (Below.block g28x _ (Array.getElem?_eq_some_iff.1 f27_5).1).trans f27_5
    have s28 : w27.heap.size ≤ w28.heap.size := g28x.le
    refine ⟨_, rfl, keep _ G28, ?_⟩
    refine st_one (i := 4) (oi := wi4_4) (by kernel_rfl) rfl rfl ?_
    have G29 := Gr.alloc G28 (.cells zC 237)
    have f29_5 := (Below.heap_alloc w28 (.cells zC 237) _ (Array.getElem?_eq_some_iff.1 f28_5).1).trans f28_5
    have f29_4 := al_new w28 (.cells zC 237) _ rfl
    have t29 : w.heap.size ≤ w28.heap.size := G28.le
    have u29 : w28.heap.size = w28.heap.size := rfl
    have v29_5 : w.drew.heap.size < w28.heap.size := (Array.getElem?_eq_some_iff.1 f28_5).1
    refine st_val (d := 7) rfl (rr_alloc _ _ _ _ _ _ _ counts_zero) (keep _ G29) ?_
    rw [re_comm _ 8 17 _ _ (by decide), re_comm _ 8 19 _ _ (by decide), re_comm _ 8 7 _ _ (by decide)]
    exact fin (w28.alloc (.cells zC 237)) w28.heap.size w.drew.heap.size _ rfl G29 t29 t26 (by have := u29; have := u26; omega) f29_4 f29_5
   ·have G30 := Gr.alloc G27 (.cells zC 237)
    have f30_5 := (Below.heap_alloc w27 (.cells zC 237) _ (Array.getElem?_eq_some_iff.1 f27_5).1).trans f27_5
    have f30_4 := al_new w27 (.cells zC 237) _ rfl
    have t30 : w.heap.size ≤ w27.heap.size := G27.le
    have u30 : w27.heap.size = w27.heap.size := rfl
    have v30_5 : w.drew.heap.size < w27.heap.size := (Array.getElem?_eq_some_iff.1 f27_5).1
    refine st_val (d := 7) rfl (rr_alloc _ _ _ _ _ _ _ counts_zero) (keep _ G30) ?_
    refine st_one (i := 3) (oi := wi4_3) (by kernel_rfl) rfl rfl ?_
    refine st_call (d := 19) rfl (rr_enter1 _ _ _ _ _ _ _ 172 _ (.agg #[vv', mv']) _ (by simp [re_ne, re_eq, re_size, re_const, hsz, h2, h3]) rfl (rr_enter_of Tryz.func172 (by kernel_rfl) (by kernel_rfl) _ _)) (HC' (w27.alloc (.cells zC 237)) G30) ?_
    rintro e w31 ⟨rfl, g31x⟩
    have G31 := Gr.trans G30 g31x
    have f31_5 := (Below.block g31x _ (Array.getElem?_eq_some_iff.1 f30_5).1).trans f30_5
    have f31_4 := (Below.block g31x _ (Array.getElem?_eq_some_iff.1 f30_4).1).trans f30_4
    have s31 : (w27.alloc (.cells zC 237)).heap.size ≤ w31.heap.size := g31x.le
    refine ⟨_, rfl, keep _ G31, ?_⟩
    rw [re_comm _ 8 17 _ _ (by decide), re_comm _ 8 7 _ _ (by decide), re_comm _ 8 19 _ _ (by decide), re_comm _ 7 19 _ _ (by decide)]
    exact fin w31 w27.heap.size w.drew.heap.size _ rfl G31 t30 t26 (by have := u30; have := u26; omega) f31_4 f31_5
  ·have G32 := Gr.alloc G26 (.cells zC 237)
   have f32_5 := (Below.heap_alloc (w.drew.alloc (.cells zC 237)) (.cells zC 237) _ (Array.getElem?_eq_some_iff.1 f26_5).1).trans f26_5
   have f32_4 := al_new (w.drew.alloc (.cells zC 237)) (.cells zC 237) _ rfl
   have t32 : w.heap.size ≤ (w.drew.alloc (.cells zC 237)).heap.size := G26.le
   have u32 : (w.drew.alloc (.cells zC 237)).heap.size = (w.drew.alloc (.cells zC 237)).heap.size := rfl
   have v32_5 : w.drew.heap.size < (w.drew.alloc (.cells zC 237)).heap.size := (Array.getElem?_eq_some_iff.1 f26_5).1
   refine st_val (d := 7) rfl (rr_alloc _ _ _ _ _ _ _ counts_zero) (keep _ G32) ?_
   refine st_one (i := 1) (oi := wi4_1) (by kernel_rfl) rfl rfl ?_
   refine st_call (d := 17) rfl (rr_enter1 _ _ _ _ _ _ _ 172 _ (.agg #[vv, mv]) _ (by simp [re_ne, re_eq, re_size, re_const, hsz, h2, h3]) rfl (rr_enter_of Tryz.func172 (by kernel_rfl) (by kernel_rfl) _ _)) (HC ((w.drew.alloc (.cells zC 237)).alloc (.cells zC 237)) G32) ?_
   rintro e w33 ⟨rfl, g33x⟩
   have G33 := Gr.trans G32 g33x
   have f33_5 := (Below.block g33x _ (Array.getElem?_eq_some_iff.1 f32_5).1).trans f32_5
   have f33_4 := (Below.block g33x _ (Array.getElem?_eq_some_iff.1 f32_4).1).trans f32_4
   have s33 : ((w.drew.alloc (.cells zC 237)).alloc (.cells zC 237)).heap.size ≤ w33.heap.size := g33x.le
   refine ⟨_, rfl, keep _ G33, ?_⟩
   refine st_one (i := 3) (oi := wi4_3) (by kernel_rfl) rfl rfl ?_
   refine st_call (d := 19) rfl (rr_enter1 _ _ _ _ _ _ _ 172 _ (.agg #[vv', mv']) _ (by simp [re_ne, re_eq, re_size, re_const, hsz, h2, h3]) rfl (rr_enter_of Tryz.func172 (by kernel_rfl) (by kernel_rfl) _ _)) (HC' w33 G33) ?_
   rintro e w34 ⟨rfl, g34x⟩
   have G34 := Gr.trans G33 g34x
   have f34_5 := (Below.block g34x _ (Array.getElem?_eq_some_iff.1 f33_5).1).trans f33_5
   have f34_4 := (Below.block g34x _ (Array.getElem?_eq_some_iff.1 f33_4).1).trans f33_4
   have s34 : w33.heap.size ≤ w34.heap.size := g34x.le
   refine ⟨_, rfl, keep _ G34, ?_⟩
   rw [re_comm _ 8 7 _ _ (by decide), re_comm _ 8 17 _ _ (by decide), re_comm _ 8 19 _ _ (by decide), re_comm _ 7 17 _ _ (by decide), re_comm _ 7 19 _ _ (by decide)]
   exact fin w34 (w.drew.alloc (.cells zC 237)).heap.size w.drew.heap.size _ rfl G34 t32 t26 (by have := u32; have := u26; omega) f34_4 f34_5
end Go.Proofs.YtglbnggkkjhokaaGreat
/- know.Add, Join, Meet, Within: the regions that build the answers, over any frame. -/
namespace Go.Proofs.YtglbnggkkjhokaaGreat
open Go.RowKit Rm
section
variable (ev : Operand → Value) (d : Option Tmp) (ty : TypeId) (p : String) (af : Array Edge) (g : Option (Nat × Bool)) (w : World)
theorem rr_bs2 (x y : Operand) (a1 : Option Addr) (n1 c1 : Nat) (a2 : Option Addr) (n2 c2 : Nat) (hx : ev x = .slice a1 n1 c1) (hy : ev y = .slice a2 n2 c2) : (execOp ev (Oper.mk d (.buildSlice 274 2 #[(0, x), (1, y)]) ty p af g)).run Tryz.prog w = .ok (.value (.slice (some ⟨w.heap.size, 0, none⟩) 2 2)) (w.alloc (.cells #[.slice a1 n1 c1, .slice a2 n2 c2] 73)) := by
 go_simp
theorem rr_bsD (x : Operand) (s c : Nat) (hx : ev x = .agg #[.int .i64 (s : Int), .int .i64 (c : Int)]) : (execOp ev (Oper.mk d (.buildSlice 73 1 #[(0, x)]) ty p af g)).run Tryz.prog w = .ok (.value (.slice (some ⟨w.heap.size, 0, none⟩) 1 1)) (w.alloc (.cells #[.int .i64 (s : Int), .int .i64 (c : Int)] 51)) := by
 go_simp
theorem rr_len (x : Operand) (a1 : Option Addr) (n1 c1 : Nat) (hx : ev x = .slice a1 n1 c1) : (execOp ev (Oper.mk d (.call (Call.mk (.builtin .len) #[x] #[73])) ty p af g)).run Tryz.prog w = .ok (.value (.int .i64 (n1 : Nat))) w := by
 go_simp
theorem rr_eqI (x y : Operand) (m n : Nat) (hx : ev x = .int .i64 (m : Nat)) (hy : ev y = .int .i64 (n : Nat)) : (execOp ev (Oper.mk d (.binOp .eql 3 x y 3) ty p af g)).run Tryz.prog w = .ok (.value (.bool (decide ((m : Int) = (n : Int))))) w := by
 go_simp
 rw [Bool.eq_iff_iff]
 simp
end
theorem two_one (a1 : Option Addr) (n1 c1 : Nat) (a2 : Option Addr) (n2 c2 : Nat) : (#[Value.slice a1 n1 c1, .slice a2 n2 c2]).all (·.oneCell') = true := by simp [Value.oneCell']
theorem know_size2 : (Tryz.prog.info? 75).map (·.size) = some 2 := by kernel_rfl
def KS3 (g0 g1 b7 : Nat) (vv mv vv' mv' : Value) (A : Array Value) (x : World) : Prop := KS2 g0 g1 vv mv vv' mv' x ∧ x.heap[b7]? = some (.cells A 237 (0, 0))
def KD2 (g0 g1 : Nat) (vv mv : Value) (s c : Nat) (x : World) : Prop := x.heap[g0]? = some (.cells #[vv, mv] 75 (0, 0)) ∧ x.heap[g1]? = some (.cells #[.int .i64 (s : Int), .int .i64 (c : Int)] 51 (0, 0))
def jn10_0 : Oper := Oper.mk (some 34) (Op.load 237 (Operand.tmp 7)) 237 "know.go:62" #[] none
def jn10_1 : Oper := Oper.mk (some 35) (Op.fieldAddr 75 (Operand.tmp 2) 1) 0 "know.go:62" #[] none
def jn10_2 : Oper := Oper.mk (some 36) (Op.load 73 (Operand.tmp 35)) 73 "know.go:62" #[Edge.mk 1 Ground.data] none
def jn10_3 : Oper := Oper.mk (some 37) (Op.fieldAddr 75 (Operand.tmp 3) 1) 0 "know.go:62" #[] none
def jn10_4 : Oper := Oper.mk (some 38) (Op.load 73 (Operand.tmp 37)) 73 "know.go:62" #[Edge.mk 3 Ground.data] none
def jn10_5 : Oper := Oper.mk (some 39) (Op.buildSlice 274 2 #[(0, Operand.tmp 36), (1, Operand.tmp 38)]) 274 "know.go:62" #[Edge.mk 2 Ground.data, Edge.mk 4 Ground.data] none
def jn10_6 : Oper := Oper.mk (some 40) (Op.call (Call.mk (Callee.value (Operand.func 174)) #[Operand.tmp 39] #[274])) 73 "know.go:62" #[Edge.mk 5 Ground.data] none
def jn10_7 : Oper := Oper.mk (some 41) (Op.call (Call.mk (Callee.value (Operand.func 173)) #[Operand.tmp 34, Operand.tmp 40] #[237, 73])) 143 "know.go:62" #[Edge.mk 0 Ground.data, Edge.mk 6 Ground.data, Edge.mk 6 Ground.chain] none
def jn10_8 : Oper := Oper.mk (some 42) (Op.extract (Operand.tmp 41) 0) 75 "know.go:62" #[Edge.mk 7 Ground.data] none
def jn10_9 : Oper := Oper.mk (some 43) (Op.extract (Operand.tmp 41) 1) 29 "know.go:62" #[Edge.mk 7 Ground.data] none
def jn10_10 : Oper := Oper.mk none (Op.store 75 (Operand.tmp 4) (Operand.tmp 42)) 0 "know.go:62" #[Edge.mk 8 Ground.data, Edge.mk 7 Ground.chain, Edge.mk 0 Ground.phase, Edge.mk 1 Ground.phase, Edge.mk 2 Ground.phase, Edge.mk 3 Ground.phase, Edge.mk 4 Ground.phase, Edge.mk 5 Ground.phase, Edge.mk 6 Ground.phase, Edge.mk 7 Ground.phase, Edge.mk 8 Ground.phase, Edge.mk 9 Ground.phase] none
def jn10_11 : Oper := Oper.mk (some 5) (Op.assign (Operand.tmp 43)) 29 "know.go:62" #[Edge.mk 9 Ground.data, Edge.mk 10 Ground.chain, Edge.mk 0 Ground.phase, Edge.mk 1 Ground.phase, Edge.mk 2 Ground.phase, Edge.mk 3 Ground.phase, Edge.mk 4 Ground.phase, Edge.mk 5 Ground.phase, Edge.mk 6 Ground.phase, Edge.mk 7 Ground.phase, Edge.mk 8 Ground.phase, Edge.mk 9 Ground.phase, Edge.mk 10 Ground.phase] none
def jn10_Ops : Array Oper := #[jn10_0, jn10_1, jn10_2, jn10_3, jn10_4, jn10_5, jn10_6, jn10_7, jn10_8, jn10_9, jn10_10, jn10_11]
theorem jn10_reg (Q : Exit → Act → World → Prop) (hQ : ∀ c a d v w, Q (.panic c) (Act.put a (some d) v) w → Q (.panic c) a w) (a : Act) (w : World) (g0 g1 g4 b7 : Nat) (vv vv' : Value) (ma ma' : Option Addr) (mn mc mn' mc' : Nat) (A : Array Value)
  (hsz : a.tmps.size = 44) (h2 : a.eval (.tmp 2) = .pointer (some ⟨g0, 0, none⟩)) (h3 : a.eval (.tmp 3) = .pointer (some ⟨g1, 0, none⟩)) (h4 : a.eval (.tmp 4) = .pointer (some ⟨g4, 0, none⟩)) (h7 : a.eval (.tmp 7) = .pointer (some ⟨b7, 0, none⟩))
  (hS0 : KS3 g0 g1 b7 vv (.slice ma mn mc) vv' (.slice ma' mn' mc') A w) (hl0 : g0 < w.heap.size) (hl1 : g1 < w.heap.size) (hl7 : b7 < w.heap.size) (hA5 : A.size = 5)
  (h40 : w.heap[g4]? = some (.cells #[.slice none 0 0, .slice none 0 0] 75 (0, 0))) (hn0 : g0 ≠ g4) (hn1 : g1 ≠ g4) (hn7 : b7 ≠ g4)
  (FC : Value → World → World → Prop) (FB : Option Addr → Nat → Nat → Option Addr → Nat → Nat → Int → World → Prop)
  (HCC : ∀ W b, Gr w W → W.heap[b]? = some (.cells #[.slice ma mn mc, .slice ma' mn' mc'] 73 (0, 0)) → Calls Tryz.prog 174 #[.slice (some ⟨b, 0, none⟩) 2 2] W fun e W' => ∃ u, e = .returned u ∧ Gr W W' ∧ FC u W W')
  (HB : ∀ W W' u, Gr w W → Gr W W' → FC u W W' → Calls Tryz.prog 173 #[.agg A, u] W' fun e W'' => ∃ a1 n1 c1 a2 n2 c2 r, e = .returned (.tuple #[.agg #[.slice a1 n1 c1, .slice a2 n2 c2], .int .i64 r]) ∧ Gr w W'' ∧ FB a1 n1 c1 a2 n2 c2 r W'')
  (h : ∀ (W : World) (b39 : Nat) (u : Value) a1 n1 c1 a2 n2 c2 r, Gr w W → FB a1 n1 c1 a2 n2 c2 r W → Q .normal (Act.put (Act.put (Act.put (Act.put (Act.put (Act.put (Act.put (Act.put (Act.put (Act.put (Act.put a (some 34) (.agg A)) (some 35) (.pointer (some ⟨g0, 1, none⟩))) (some 37) (.pointer (some ⟨g1, 1, none⟩))) (some 36) (.slice ma mn mc)) (some 38) (.slice ma' mn' mc')) (some 39) (.slice (some ⟨b39, 0, none⟩) 2 2)) (some 40) (u)) (some 41) (.tuple #[.agg #[.slice a1 n1 c1, .slice a2 n2 c2], .int .i64 r])) (some 42) (.agg #[.slice a1 n1 c1, .slice a2 n2 c2])) (some 43) (.int .i64 r)) (some 5) (.int .i64 r)) (W.setRow g4 #[.slice a1 n1 c1, .slice a2 n2 c2])) : (Code.region 10 jn10_Ops true).wp Tryz.prog Q a w := by
 have keep : ∀ x, Gr w x → KS3 g0 g1 b7 vv (.slice ma mn mc) vv' (.slice ma' mn' mc') A x := fun x gx => ⟨⟨(Below.block gx g0 hl0).trans hS0.1.1, (Below.block gx g1 hl1).trans hS0.1.2⟩, (Below.block gx b7 hl7).trans hS0.2⟩
 have keep4 : ∀ x, Gr w x → x.heap[g4]? = some (.cells #[.slice none 0 0, .slice none 0 0] 75 (0, 0)) := fun x gx => (Below.block gx g4 (Array.getElem?_eq_some_iff.1 h40).1).trans h40
 have szA : (Tryz.prog.info? 237).map (·.size) = some A.size := by rw [hA5]; exact counts_size
 refine wp_region_held_drew (S := KS3 g0 g1 b7 vv (.slice ma mn mc) vv' (.slice ma' mn' mc') A) (by kernel_rfl) hS0 (fun hHeld => ?_)
 show wpAnyH Tryz.prog .any jn10_Ops Q _ 12 (Array.replicate 12 false) a w.drew
 have G0 : Gr w w.drew := (Gr.refl w).drew
 refine re_tk (i := 0) (oi := jn10_0) (v := .agg A) (d := 34) hQ rfl rfl (by kernel_rfl) (by kernel_rfl) (by kernel_rfl) (Or.inl ⟨re_none _ rfl, fun wx hS => rr_row _ _ _ _ _ _ _ 237 _ b7 A (by simp [re_ne, re_eq, re_size, re_const, hsz, h2, h3, h4, h7]) (run_loadVar_row wx b7 237 237 A (0, 0) _ (hS.2) Tryz.underlying237 rfl szA)⟩) hHeld ?_
 refine re_tk (i := 1) (oi := jn10_1) (v := .pointer (some ⟨g0, 1, none⟩)) (d := 35) hQ rfl rfl (by kernel_rfl) (by kernel_rfl) (by kernel_rfl) (Or.inl ⟨re_none _ rfl, fun wx hS => rr_fK1 _ _ _ _ _ _ _ _ g0 (by simp [re_ne, re_eq, re_size, re_const, hsz, h2, h3, h4, h7])⟩) hHeld ?_
 refine re_tk (i := 3) (oi := jn10_3) (v := .pointer (some ⟨g1, 1, none⟩)) (d := 37) hQ rfl rfl (by kernel_rfl) (by kernel_rfl) (by kernel_rfl) (Or.inl ⟨re_none _ rfl, fun wx hS => rr_fK1 _ _ _ _ _ _ _ _ g1 (by simp [re_ne, re_eq, re_size, re_const, hsz, h2, h3, h4, h7])⟩) hHeld ?_
 refine re_tk (i := 2) (oi := jn10_2) (v := .slice ma mn mc) (d := 36) hQ rfl rfl (by kernel_rfl) (by kernel_rfl) (by kernel_rfl) (Or.inl ⟨re_none _ rfl, fun wx hS => rr_lS _ _ _ _ _ _ _ _ g0 1 (.slice ma mn mc) (by simp [re_ne, re_eq, re_size, re_const, hsz, h2, h3, h4, h7]) (kc1 (hS.1.1))⟩) hHeld ?_
 refine re_tk (i := 4) (oi := jn10_4) (v := .slice ma' mn' mc') (d := 38) hQ rfl rfl (by kernel_rfl) (by kernel_rfl) (by kernel_rfl) (Or.inl ⟨re_none _ rfl, fun wx hS => rr_lS _ _ _ _ _ _ _ _ g1 1 (.slice ma' mn' mc') (by simp [re_ne, re_eq, re_size, re_const, hsz, h2, h3, h4, h7]) (kc1 (hS.1.2))⟩) hHeld ?_
 refine st_one (i := 5) (oi := jn10_5) (by kernel_rfl) rfl rfl ?_
 have f1 := al_new w.drew (.cells #[.slice ma mn mc, .slice ma' mn' mc'] 73) _ rfl
 have G1 := Gr.alloc G0 (.cells #[.slice ma mn mc, .slice ma' mn' mc'] 73)
 have hHeld1 := keep _ G1
 refine st_val (d := 39) rfl (rr_bs2 _ _ _ _ _ _ _ _ _ ma mn mc ma' mn' mc' (by simp [re_ne, re_eq, re_size, re_const, hsz, h2, h3, h4, h7]) (by simp [re_ne, re_eq, re_size, re_const, hsz, h2, h3, h4, h7])) hHeld1 ?_
 refine st_one (i := 6) (oi := jn10_6) (by kernel_rfl) rfl rfl ?_
 refine st_call (d := 40) rfl (rr_enter1 _ _ _ _ _ _ _ 174 _ (.slice (some ⟨w.drew.heap.size, 0, none⟩) 2 2) _ (by simp [re_ne, re_eq, re_size, re_const, hsz, h2, h3, h4, h7]) rfl (rr_enter_of Tryz.func174 (by kernel_rfl) (by kernel_rfl) _ _)) (HCC _ _ G1 f1) ?_
 rintro e W2 ⟨u, rfl, gC, fC⟩
 have G2 := Gr.trans G1 gC
 have hHeld2 := keep _ G2
 refine ⟨_, rfl, hHeld2, ?_⟩
 refine st_one (i := 7) (oi := jn10_7) (by kernel_rfl) rfl rfl ?_
 refine st_call (d := 41) rfl (rr_enter2 _ _ _ _ _ _ _ 173 _ _ (.agg A) (u) _ (by simp [re_ne, re_eq, re_size, re_const, hsz, h2, h3, h4, h7]) (by simp [re_ne, re_eq, re_size, re_const, hsz, h2, h3, h4, h7]) rfl (rr_enter_of Tryz.func173 (by kernel_rfl) (by kernel_rfl) _ _)) (HB _ _ u G1 gC fC) ?_
 rintro e W3 ⟨a1, n1, c1, a2, n2, c2, r, rfl, gB, fB⟩
 have G3 := gB
 have hHeld3 := keep _ G3
 refine ⟨_, rfl, hHeld3, ?_⟩
 refine re_tk (i := 8) (oi := jn10_8) (v := .agg #[.slice a1 n1 c1, .slice a2 n2 c2]) (d := 42) hQ rfl rfl (by kernel_rfl) (by kernel_rfl) (by kernel_rfl) (Or.inl ⟨re_none _ rfl, fun wx hS => rr_ext0 _ _ _ _ _ _ _ _ (.agg #[.slice a1 n1 c1, .slice a2 n2 c2]) (.int .i64 r) (by simp [re_ne, re_eq, re_size, re_const, hsz, h2, h3, h4, h7])⟩) hHeld3 ?_
 refine re_tk (i := 9) (oi := jn10_9) (v := .int .i64 r) (d := 43) hQ rfl rfl (by kernel_rfl) (by kernel_rfl) (by kernel_rfl) (Or.inl ⟨re_none _ rfl, fun wx hS => rr_ext1 _ _ _ _ _ _ _ _ (.agg #[.slice a1 n1 c1, .slice a2 n2 c2]) (.int .i64 r) (by simp [re_ne, re_eq, re_size, re_const, hsz, h2, h3, h4, h7])⟩) hHeld3 ?_
 refine st_one (i := 10) (oi := jn10_10) (by kernel_rfl) rfl rfl ?_
 have e4 := keep4 _ G3
 have hSt := (show KS3 g0 g1 b7 vv (.slice ma mn mc) vv' (.slice ma' mn' mc') A _ from ⟨⟨(setRow_other _ g4 g0 #[.slice a1 n1 c1, .slice a2 n2 c2] hn0).trans hHeld3.1.1, (setRow_other _ g4 g1 #[.slice a1 n1 c1, .slice a2 n2 c2] hn1).trans hHeld3.1.2⟩, (setRow_other _ g4 b7 #[.slice a1 n1 c1, .slice a2 n2 c2] hn7).trans hHeld3.2⟩)
 refine st_row 75 (.tmp 4) (.tmp 42) rfl rfl g4 #[.slice a1 n1 c1, .slice a2 n2 c2] (by simp [re_ne, re_eq, re_size, re_const, hsz, h2, h3, h4, h7]) (by simp [re_ne, re_eq, re_size, re_const, hsz, h2, h3, h4, h7]) 75 #[.slice none 0 0, .slice none 0 0] e4 know_size2 rfl (two_one _ _ _ _ _ _) hSt ?_
 refine re_tk (i := 11) (oi := jn10_11) (v := .int .i64 r) (d := 5) hQ rfl rfl (by kernel_rfl) (by kernel_rfl) (by kernel_rfl) (Or.inl ⟨re_none _ rfl, fun wx hS => rr_assign _ _ _ _ _ _ _ _ _ (by simp [re_ne, re_eq, re_size, re_const, hsz, h2, h3, h4, h7])⟩) hSt ?_
 exact wpAnyH_done (by kernel_rfl) (h _ (w.drew.heap.size) u a1 n1 c1 a2 n2 c2 r G3 fB) _
def wi11_0 : Oper := Oper.mk (some 31) (Op.fieldAddr 75 (Operand.tmp 2) 1) 0 "know.go:92" #[] none
def wi11_1 : Oper := Oper.mk (some 32) (Op.load 73 (Operand.tmp 31)) 73 "know.go:92" #[Edge.mk 0 Ground.data] none
def wi11_2 : Oper := Oper.mk (some 33) (Op.load 75 (Operand.tmp 3)) 75 "know.go:92" #[] none
def wi11_3 : Oper := Oper.mk (some 34) (Op.call (Call.mk (Callee.value (Operand.func 241)) #[Operand.tmp 32, Operand.tmp 33] #[73, 75])) 73 "know.go:92" #[Edge.mk 1 Ground.data, Edge.mk 2 Ground.data] none
def wi11_4 : Oper := Oper.mk (some 35) (Op.call (Call.mk (Callee.builtin Builtin.len) #[Operand.tmp 34] #[73])) 3 "know.go:92" #[Edge.mk 3 Ground.data] none
def wi11_5 : Oper := Oper.mk (some 36) (Op.fieldAddr 75 (Operand.tmp 2) 1) 0 "know.go:92" #[] none
def wi11_6 : Oper := Oper.mk (some 37) (Op.load 73 (Operand.tmp 36)) 73 "know.go:92" #[Edge.mk 5 Ground.data] none
def wi11_7 : Oper := Oper.mk (some 38) (Op.call (Call.mk (Callee.builtin Builtin.len) #[Operand.tmp 37] #[73])) 3 "know.go:92" #[Edge.mk 6 Ground.data] none
def wi11_8 : Oper := Oper.mk (some 39) (Op.binOp BinOp.eql 3 (Operand.tmp 35) (Operand.tmp 38) 3) 4 "know.go:92" #[Edge.mk 4 Ground.data, Edge.mk 7 Ground.data] none
def wi11_9 : Oper := Oper.mk (some 4) (Op.assign (Operand.tmp 39)) 4 "know.go:92" #[Edge.mk 8 Ground.data, Edge.mk 3 Ground.chain, Edge.mk 0 Ground.phase, Edge.mk 1 Ground.phase, Edge.mk 2 Ground.phase, Edge.mk 3 Ground.phase, Edge.mk 4 Ground.phase, Edge.mk 5 Ground.phase, Edge.mk 6 Ground.phase, Edge.mk 7 Ground.phase, Edge.mk 8 Ground.phase] none
def wi11_10 : Oper := Oper.mk (some 5) (Op.assign (Operand.const (Value.int IntKind.i64 0))) 29 "know.go:92" #[Edge.mk 9 Ground.chain, Edge.mk 0 Ground.phase, Edge.mk 1 Ground.phase, Edge.mk 2 Ground.phase, Edge.mk 3 Ground.phase, Edge.mk 4 Ground.phase, Edge.mk 5 Ground.phase, Edge.mk 6 Ground.phase, Edge.mk 7 Ground.phase, Edge.mk 8 Ground.phase, Edge.mk 9 Ground.phase] none
def wi11_Ops : Array Oper := #[wi11_0, wi11_1, wi11_2, wi11_3, wi11_4, wi11_5, wi11_6, wi11_7, wi11_8, wi11_9, wi11_10]
theorem wi11_reg (Q : Exit → Act → World → Prop) (hQ : ∀ c a d v w, Q (.panic c) (Act.put a (some d) v) w → Q (.panic c) a w) (a : Act) (w : World) (g0 g1 : Nat) (vv vv' : Value) (ma ma' : Option Addr) (mn mc mn' mc' : Nat)
  (hsz : a.tmps.size = 40) (h2 : a.eval (.tmp 2) = .pointer (some ⟨g0, 0, none⟩)) (h3 : a.eval (.tmp 3) = .pointer (some ⟨g1, 0, none⟩))
  (hS0 : KS2 g0 g1 vv (.slice ma mn mc) vv' (.slice ma' mn' mc') w) (hl0 : g0 < w.heap.size) (hl1 : g1 < w.heap.size) (F1 : Option Addr → Nat → Nat → World → Prop)
  (HM : ∀ W, Gr w W → Calls Tryz.prog 241 #[.slice ma mn mc, .agg #[vv', .slice ma' mn' mc']] W fun e W' => ∃ p1 p2 p3, e = .returned (.slice p1 p2 p3) ∧ Gr W W' ∧ F1 p1 p2 p3 W')
  (h : ∀ (W : World) (p1 : Option Addr) (p2 p3 : Nat), Gr w W → F1 p1 p2 p3 W → Q .normal (Act.put (Act.put (Act.put (Act.put (Act.put (Act.put (Act.put (Act.put (Act.put (Act.put (Act.put a (some 31) (.pointer (some ⟨g0, 1, none⟩))) (some 33) (.agg #[vv', .slice ma' mn' mc'])) (some 36) (.pointer (some ⟨g0, 1, none⟩))) (some 32) (.slice ma mn mc)) (some 37) (.slice ma mn mc)) (some 38) (.int .i64 (mn : Nat))) (some 34) (.slice p1 p2 p3)) (some 35) (.int .i64 (p2 : Nat))) (some 39) (.bool (decide ((p2 : Int) = (mn : Int))))) (some 4) (.bool (decide ((p2 : Int) = (mn : Int))))) (some 5) (.int .i64 0)) W) : (Code.region 11 wi11_Ops true).wp Tryz.prog Q a w := by
 have keep : ∀ x, Gr w x → KS2 g0 g1 vv (.slice ma mn mc) vv' (.slice ma' mn' mc') x := fun x gx => ⟨(Below.block gx g0 hl0).trans hS0.1, (Below.block gx g1 hl1).trans hS0.2⟩
 refine wp_region_held_drew (S := KS2 g0 g1 vv (.slice ma mn mc) vv' (.slice ma' mn' mc')) (by kernel_rfl) hS0 (fun hHeld => ?_)
 show wpAnyH Tryz.prog .any wi11_Ops Q _ 11 (Array.replicate 11 false) a w.drew
 have G0 : Gr w w.drew := (Gr.refl w).drew
 refine re_tk (i := 0) (oi := wi11_0) (v := .pointer (some ⟨g0, 1, none⟩)) (d := 31) hQ rfl rfl (by kernel_rfl) (by kernel_rfl) (by kernel_rfl) (Or.inl ⟨re_none _ rfl, fun wx hS => rr_fK1 _ _ _ _ _ _ _ _ g0 (by simp [re_ne, re_eq, re_size, re_const, hsz, h2, h3])⟩) hHeld ?_
 refine re_tk (i := 2) (oi := wi11_2) (v := .agg #[vv', .slice ma' mn' mc']) (d := 33) hQ rfl rfl (by kernel_rfl) (by kernel_rfl) (by kernel_rfl) (Or.inl ⟨re_none _ rfl, fun wx hS => rr_lK _ _ _ _ _ _ _ _ g1 (vv') (.slice ma' mn' mc') (by simp [re_ne, re_eq, re_size, re_const, hsz, h2, h3]) (kc0 (hS.2)) (kc1 (hS.2))⟩) hHeld ?_
 refine re_tk (i := 5) (oi := wi11_5) (v := .pointer (some ⟨g0, 1, none⟩)) (d := 36) hQ rfl rfl (by kernel_rfl) (by kernel_rfl) (by kernel_rfl) (Or.inl ⟨re_none _ rfl, fun wx hS => rr_fK1 _ _ _ _ _ _ _ _ g0 (by simp [re_ne, re_eq, re_size, re_const, hsz, h2, h3])⟩) hHeld ?_
 refine re_tk (i := 1) (oi := wi11_1) (v := .slice ma mn mc) (d := 32) hQ rfl rfl (by kernel_rfl) (by kernel_rfl) (by kernel_rfl) (Or.inl ⟨re_none _ rfl, fun wx hS => rr_lS _ _ _ _ _ _ _ _ g0 1 (.slice ma mn mc) (by simp [re_ne, re_eq, re_size, re_const, hsz, h2, h3]) (kc1 (hS.1))⟩) hHeld ?_
 refine re_tk (i := 6) (oi := wi11_6) (v := .slice ma mn mc) (d := 37) hQ rfl rfl (by kernel_rfl) (by kernel_rfl) (by kernel_rfl) (Or.inl ⟨re_none _ rfl, fun wx hS => rr_lS _ _ _ _ _ _ _ _ g0 1 (.slice ma mn mc) (by simp [re_ne, re_eq, re_size, re_const, hsz, h2, h3]) (kc1 (hS.1))⟩) hHeld ?_
 refine re_tk (i := 7) (oi := wi11_7) (v := .int .i64 (mn : Nat)) (d := 38) hQ rfl rfl (by kernel_rfl) (by kernel_rfl) (by kernel_rfl) (Or.inl ⟨re_none _ rfl, fun wx hS => rr_len _ _ _ _ _ _ _ _ ma mn mc (by simp [re_ne, re_eq, re_size, re_const, hsz, h2, h3])⟩) hHeld ?_
 refine st_one (i := 3) (oi := wi11_3) (by kernel_rfl) rfl rfl ?_
 refine st_call (d := 34) rfl (rr_enter2 _ _ _ _ _ _ _ 241 _ _ (.slice ma mn mc) (.agg #[vv', .slice ma' mn' mc']) _ (by simp [re_ne, re_eq, re_size, re_const, hsz, h2, h3]) (by simp [re_ne, re_eq, re_size, re_const, hsz, h2, h3]) rfl (rr_enter_of Tryz.func241 (by kernel_rfl) (by kernel_rfl) _ _)) (HM _ G0) ?_
 rintro e W1 ⟨p1, p2, p3, rfl, gM, fM⟩
 have G1 := Gr.trans G0 gM
 have hHeld1 := keep _ G1
 refine ⟨_, rfl, hHeld1, ?_⟩
 refine re_tk (i := 4) (oi := wi11_4) (v := .int .i64 (p2 : Nat)) (d := 35) hQ rfl rfl (by kernel_rfl) (by kernel_rfl) (by kernel_rfl) (Or.inl ⟨re_none _ rfl, fun wx hS => rr_len _ _ _ _ _ _ _ _ p1 p2 p3 (by simp [re_ne, re_eq, re_size, re_const, hsz, h2, h3])⟩) hHeld1 ?_
 refine re_tk (i := 8) (oi := wi11_8) (v := .bool (decide ((p2 : Int) = (mn : Int)))) (d := 39) hQ rfl rfl (by kernel_rfl) (by kernel_rfl) (by kernel_rfl) (Or.inl ⟨re_none _ rfl, fun wx hS => rr_eqI _ _ _ _ _ _ _ _ _ (p2 : Nat) (mn : Nat) (by simp [re_ne, re_eq, re_size, re_const, hsz, h2, h3]) (by simp [re_ne, re_eq, re_size, re_const, hsz, h2, h3])⟩) hHeld1 ?_
 refine re_tk (i := 9) (oi := wi11_9) (v := .bool (decide ((p2 : Int) = (mn : Int)))) (d := 4) hQ rfl rfl (by kernel_rfl) (by kernel_rfl) (by kernel_rfl) (Or.inl ⟨re_none _ rfl, fun wx hS => rr_assign _ _ _ _ _ _ _ _ _ (by simp [re_ne, re_eq, re_size, re_const, hsz, h2, h3])⟩) hHeld1 ?_
 refine re_tk (i := 10) (oi := wi11_10) (v := .int .i64 0) (d := 5) hQ rfl rfl (by kernel_rfl) (by kernel_rfl) (by kernel_rfl) (Or.inl ⟨re_none _ rfl, fun wx hS => rr_assign _ _ _ _ _ _ _ _ _ (by simp [re_ne, re_eq, re_size, re_const, hsz, h2, h3])⟩) hHeld1 ?_
 exact wpAnyH_done (by kernel_rfl) (h _ p1 p2 p3 G1 fM) _
def ad6_0 : Oper := Oper.mk (some 17) (Op.load 75 (Operand.tmp 2)) 75 "know.go:50" #[] none
def ad6_1 : Oper := Oper.mk (some 18) (Op.call (Call.mk (Callee.value (Operand.func 172)) #[Operand.tmp 17] #[75])) 237 "know.go:50" #[Edge.mk 0 Ground.data] none
def ad6_2 : Oper := Oper.mk (some 19) (Op.fieldAddr 75 (Operand.tmp 2) 1) 0 "know.go:50" #[] none
def ad6_3 : Oper := Oper.mk (some 20) (Op.load 73 (Operand.tmp 19)) 73 "know.go:50" #[Edge.mk 2 Ground.data] none
def ad6_4 : Oper := Oper.mk (some 21) (Op.load 51 (Operand.tmp 3)) 51 "know.go:50" #[] none
def ad6_5 : Oper := Oper.mk (some 22) (Op.buildSlice 73 1 #[(0, Operand.tmp 21)]) 73 "know.go:50" #[Edge.mk 4 Ground.data] none
def ad6_6 : Oper := Oper.mk (some 23) (Op.buildSlice 274 2 #[(0, Operand.tmp 20), (1, Operand.tmp 22)]) 274 "know.go:50" #[Edge.mk 3 Ground.data, Edge.mk 5 Ground.data] none
def ad6_7 : Oper := Oper.mk (some 24) (Op.call (Call.mk (Callee.value (Operand.func 174)) #[Operand.tmp 23] #[274])) 73 "know.go:50" #[Edge.mk 6 Ground.data, Edge.mk 1 Ground.chain] none
def ad6_8 : Oper := Oper.mk (some 25) (Op.call (Call.mk (Callee.value (Operand.func 173)) #[Operand.tmp 18, Operand.tmp 24] #[237, 73])) 143 "know.go:50" #[Edge.mk 1 Ground.data, Edge.mk 7 Ground.data, Edge.mk 7 Ground.chain] none
def ad6_9 : Oper := Oper.mk (some 26) (Op.extract (Operand.tmp 25) 0) 75 "know.go:50" #[Edge.mk 8 Ground.data] none
def ad6_10 : Oper := Oper.mk (some 27) (Op.extract (Operand.tmp 25) 1) 29 "know.go:50" #[Edge.mk 8 Ground.data] none
def ad6_11 : Oper := Oper.mk none (Op.store 75 (Operand.tmp 4) (Operand.tmp 26)) 0 "know.go:50" #[Edge.mk 9 Ground.data, Edge.mk 8 Ground.chain, Edge.mk 0 Ground.phase, Edge.mk 1 Ground.phase, Edge.mk 2 Ground.phase, Edge.mk 3 Ground.phase, Edge.mk 4 Ground.phase, Edge.mk 5 Ground.phase, Edge.mk 6 Ground.phase, Edge.mk 7 Ground.phase, Edge.mk 8 Ground.phase, Edge.mk 9 Ground.phase, Edge.mk 10 Ground.phase] none
def ad6_12 : Oper := Oper.mk (some 5) (Op.assign (Operand.tmp 27)) 29 "know.go:50" #[Edge.mk 10 Ground.data, Edge.mk 11 Ground.chain, Edge.mk 0 Ground.phase, Edge.mk 1 Ground.phase, Edge.mk 2 Ground.phase, Edge.mk 3 Ground.phase, Edge.mk 4 Ground.phase, Edge.mk 5 Ground.phase, Edge.mk 6 Ground.phase, Edge.mk 7 Ground.phase, Edge.mk 8 Ground.phase, Edge.mk 9 Ground.phase, Edge.mk 10 Ground.phase, Edge.mk 11 Ground.phase] none
def ad6_Ops : Array Oper := #[ad6_0, ad6_1, ad6_2, ad6_3, ad6_4, ad6_5, ad6_6, ad6_7, ad6_8, ad6_9, ad6_10, ad6_11, ad6_12]
theorem ad6_reg (Q : Exit → Act → World → Prop) (hQ : ∀ c a d v w, Q (.panic c) (Act.put a (some d) v) w → Q (.panic c) a w) (a : Act) (w : World) (g0 g1 g4 : Nat) (vv : Value) (ma : Option Addr) (mn mc s c : Nat) (A : Array Value)
  (hsz : a.tmps.size = 28) (h2 : a.eval (.tmp 2) = .pointer (some ⟨g0, 0, none⟩)) (h3 : a.eval (.tmp 3) = .pointer (some ⟨g1, 0, none⟩)) (h4 : a.eval (.tmp 4) = .pointer (some ⟨g4, 0, none⟩))
  (hS0 : KD2 g0 g1 vv (.slice ma mn mc) s c w) (hl0 : g0 < w.heap.size) (hl1 : g1 < w.heap.size)
  (h40 : w.heap[g4]? = some (.cells #[.slice none 0 0, .slice none 0 0] 75 (0, 0))) (hn0 : g0 ≠ g4) (hn1 : g1 ≠ g4)
  (FC : Value → World → World → Prop) (FB : Option Addr → Nat → Nat → Option Addr → Nat → Nat → Int → World → Prop)
  (HC : ∀ w', Gr w w' → Calls Tryz.prog 172 #[.agg #[vv, .slice ma mn mc]] w' fun e w'' => e = .returned (.agg A) ∧ Gr w' w'')
  (HCC : ∀ W b22 b23, Gr w W → W.heap[b22]? = some (.cells #[.int .i64 (s : Int), .int .i64 (c : Int)] 51 (0, 0)) → W.heap[b23]? = some (.cells #[.slice ma mn mc, .slice (some ⟨b22, 0, none⟩) 1 1] 73 (0, 0)) → Calls Tryz.prog 174 #[.slice (some ⟨b23, 0, none⟩) 2 2] W fun e W' => ∃ u, e = .returned u ∧ Gr W W' ∧ FC u W W')
  (HB : ∀ W W' u, Gr w W → Gr W W' → FC u W W' → Calls Tryz.prog 173 #[.agg A, u] W' fun e W'' => ∃ a1 n1 c1 a2 n2 c2 r, e = .returned (.tuple #[.agg #[.slice a1 n1 c1, .slice a2 n2 c2], .int .i64 r]) ∧ Gr w W'' ∧ FB a1 n1 c1 a2 n2 c2 r W'')
  (h : ∀ (W : World) (b22 b23 : Nat) (u : Value) a1 n1 c1 a2 n2 c2 r, Gr w W → FB a1 n1 c1 a2 n2 c2 r W → Q .normal (Act.put (Act.put (Act.put (Act.put (Act.put (Act.put (Act.put (Act.put (Act.put (Act.put (Act.put (Act.put a (some 17) (.agg #[vv, .slice ma mn mc])) (some 19) (.pointer (some ⟨g0, 1, none⟩))) (some 21) (.agg #[.int .i64 (s : Int), .int .i64 (c : Int)])) (some 20) (.slice ma mn mc)) (some 18) (.agg A)) (some 22) (.slice (some ⟨b22, 0, none⟩) 1 1)) (some 23) (.slice (some ⟨b23, 0, none⟩) 2 2)) (some 24) (u)) (some 25) (.tuple #[.agg #[.slice a1 n1 c1, .slice a2 n2 c2], .int .i64 r])) (some 26) (.agg #[.slice a1 n1 c1, .slice a2 n2 c2])) (some 27) (.int .i64 r)) (some 5) (.int .i64 r)) (W.setRow g4 #[.slice a1 n1 c1, .slice a2 n2 c2])) : (Code.region 6 ad6_Ops true).wp Tryz.prog Q a w := by
 have keep : ∀ x, Gr w x → KD2 g0 g1 vv (.slice ma mn mc) s c x := fun x gx => ⟨(Below.block gx g0 hl0).trans hS0.1, (Below.block gx g1 hl1).trans hS0.2⟩
 have keep4 : ∀ x, Gr w x → x.heap[g4]? = some (.cells #[.slice none 0 0, .slice none 0 0] 75 (0, 0)) := fun x gx => (Below.block gx g4 (Array.getElem?_eq_some_iff.1 h40).1).trans h40
 have fin : ∀ (W : World) (b22 b23 : Nat) (L : Array Bool), L = #[true, true, true, true, true, true, true, false, false, false, false, false, false] → KD2 g0 g1 vv (.slice ma mn mc) s c W → Gr w W → W.heap[b22]? = some (.cells #[.int .i64 (s : Int), .int .i64 (c : Int)] 51 (0, 0)) → W.heap[b23]? = some (.cells #[.slice ma mn mc, .slice (some ⟨b22, 0, none⟩) 1 1] 73 (0, 0)) → wpAnyH Tryz.prog .any ad6_Ops Q (KD2 g0 g1 vv (.slice ma mn mc) s c) 6 L (Act.put (Act.put (Act.put (Act.put (Act.put (Act.put (Act.put a (some 17) (.agg #[vv, .slice ma mn mc])) (some 19) (.pointer (some ⟨g0, 1, none⟩))) (some 21) (.agg #[.int .i64 (s : Int), .int .i64 (c : Int)])) (some 20) (.slice ma mn mc)) (some 18) (.agg A)) (some 22) (.slice (some ⟨b22, 0, none⟩) 1 1)) (some 23) (.slice (some ⟨b23, 0, none⟩) 2 2)) W := by
  intro W b22 b23 L hL hW gW f22 f23
  subst hL
  refine st_one (i := 7) (oi := ad6_7) (by kernel_rfl) rfl rfl ?_
  refine st_call (d := 24) rfl (rr_enter1 _ _ _ _ _ _ _ 174 _ (.slice (some ⟨b23, 0, none⟩) 2 2) _ (by simp [re_ne, re_eq, re_size, re_const, hsz, h2, h3, h4]) rfl (rr_enter_of Tryz.func174 (by kernel_rfl) (by kernel_rfl) _ _)) (HCC _ _ _ gW f22 f23) ?_
  rintro e W51 ⟨u, rfl, gC, fC⟩
  have G51 := Gr.trans gW gC
  have hHeld51 := keep _ G51
  refine ⟨_, rfl, hHeld51, ?_⟩
  refine st_one (i := 8) (oi := ad6_8) (by kernel_rfl) rfl rfl ?_
  refine st_call (d := 25) rfl (rr_enter2 _ _ _ _ _ _ _ 173 _ _ (.agg A) (u) _ (by simp [re_ne, re_eq, re_size, re_const, hsz, h2, h3, h4]) (by simp [re_ne, re_eq, re_size, re_const, hsz, h2, h3, h4]) rfl (rr_enter_of Tryz.func173 (by kernel_rfl) (by kernel_rfl) _ _)) (HB _ _ u gW gC fC) ?_
  rintro e W52 ⟨a1, n1, c1, a2, n2, c2, r, rfl, gB, fB⟩
  have G52 := gB
  have hHeld52 := keep _ G52
  refine ⟨_, rfl, hHeld52, ?_⟩
  refine re_tk (i := 9) (oi := ad6_9) (v := .agg #[.slice a1 n1 c1, .slice a2 n2 c2]) (d := 26) hQ rfl rfl (by kernel_rfl) (by kernel_rfl) (by kernel_rfl) (Or.inl ⟨re_none _ rfl, fun wx hS => rr_ext0 _ _ _ _ _ _ _ _ (.agg #[.slice a1 n1 c1, .slice a2 n2 c2]) (.int .i64 r) (by simp [re_ne, re_eq, re_size, re_const, hsz, h2, h3, h4])⟩) hHeld52 ?_
  refine re_tk (i := 10) (oi := ad6_10) (v := .int .i64 r) (d := 27) hQ rfl rfl (by kernel_rfl) (by kernel_rfl) (by kernel_rfl) (Or.inl ⟨re_none _ rfl, fun wx hS => rr_ext1 _ _ _ _ _ _ _ _ (.agg #[.slice a1 n1 c1, .slice a2 n2 c2]) (.int .i64 r) (by simp [re_ne, re_eq, re_size, re_const, hsz, h2, h3, h4])⟩) hHeld52 ?_
  refine st_one (i := 11) (oi := ad6_11) (by kernel_rfl) rfl rfl ?_
  have e4 := keep4 _ G52
  have hSt := (show KD2 g0 g1 vv (.slice ma mn mc) s c _ from ⟨(setRow_other _ g4 g0 #[.slice a1 n1 c1, .slice a2 n2 c2] hn0).trans hHeld52.1, (setRow_other _ g4 g1 #[.slice a1 n1 c1, .slice a2 n2 c2] hn1).trans hHeld52.2⟩)
  refine st_row 75 (.tmp 4) (.tmp 26) rfl rfl g4 #[.slice a1 n1 c1, .slice a2 n2 c2] (by simp [re_ne, re_eq, re_size, re_const, hsz, h2, h3, h4]) (by simp [re_ne, re_eq, re_size, re_const, hsz, h2, h3, h4]) 75 #[.slice none 0 0, .slice none 0 0] e4 know_size2 rfl (two_one _ _ _ _ _ _) hSt ?_
  refine re_tk (i := 12) (oi := ad6_12) (v := .int .i64 r) (d := 5) hQ rfl rfl (by kernel_rfl) (by kernel_rfl) (by kernel_rfl) (Or.inl ⟨re_none _ rfl, fun wx hS => rr_assign _ _ _ _ _ _ _ _ _ (by simp [re_ne, re_eq, re_size, re_const, hsz, h2, h3, h4])⟩) hSt ?_
  exact wpAnyH_done (by kernel_rfl) (h _ b22 b23 u a1 n1 c1 a2 n2 c2 r G52 fB) _
 refine wp_region_held_drew (S := KD2 g0 g1 vv (.slice ma mn mc) s c) (by kernel_rfl) hS0 (fun hHeld => ?_)
 show wpAnyH Tryz.prog .any ad6_Ops Q _ 13 (Array.replicate 13 false) a w.drew
 have G0 : Gr w w.drew := (Gr.refl w).drew
 refine re_tk (i := 0) (oi := ad6_0) (v := .agg #[vv, .slice ma mn mc]) (d := 17) hQ rfl rfl (by kernel_rfl) (by kernel_rfl) (by kernel_rfl) (Or.inl ⟨re_none _ rfl, fun wx hS => rr_lK _ _ _ _ _ _ _ _ g0 (vv) (.slice ma mn mc) (by simp [re_ne, re_eq, re_size, re_const, hsz, h2, h3, h4]) (kc0 (hS.1)) (kc1 (hS.1))⟩) hHeld ?_
 refine re_tk (i := 2) (oi := ad6_2) (v := .pointer (some ⟨g0, 1, none⟩)) (d := 19) hQ rfl rfl (by kernel_rfl) (by kernel_rfl) (by kernel_rfl) (Or.inl ⟨re_none _ rfl, fun wx hS => rr_fK1 _ _ _ _ _ _ _ _ g0 (by simp [re_ne, re_eq, re_size, re_const, hsz, h2, h3, h4])⟩) hHeld ?_
 refine re_tk (i := 4) (oi := ad6_4) (v := .agg #[.int .i64 (s : Int), .int .i64 (c : Int)]) (d := 21) hQ rfl rfl (by kernel_rfl) (by kernel_rfl) (by kernel_rfl) (Or.inl ⟨re_none _ rfl, fun wx hS => rr_lD _ _ _ _ _ _ _ _ g1 (.int .i64 (s : Int)) (.int .i64 (c : Int)) (by simp [re_ne, re_eq, re_size, re_const, hsz, h2, h3, h4]) (kc0 (hS.2)) (kc1 (hS.2))⟩) hHeld ?_
 refine re_tk (i := 3) (oi := ad6_3) (v := .slice ma mn mc) (d := 20) hQ rfl rfl (by kernel_rfl) (by kernel_rfl) (by kernel_rfl) (Or.inl ⟨re_none _ rfl, fun wx hS => rr_lS _ _ _ _ _ _ _ _ g0 1 (.slice ma mn mc) (by simp [re_ne, re_eq, re_size, re_const, hsz, h2, h3, h4]) (kc1 (hS.1))⟩) hHeld ?_
 refine st_pair (i := 1) (j := 5) (oi := ad6_1) (oj := ad6_5) (by kernel_rfl) rfl rfl rfl rfl ?_ ?_
 ·refine st_call (d := 18) rfl (rr_enter1 _ _ _ _ _ _ _ 172 _ (.agg #[vv, .slice ma mn mc]) _ (by simp [re_ne, re_eq, re_size, re_const, hsz, h2, h3, h4]) rfl (rr_enter_of Tryz.func172 (by kernel_rfl) (by kernel_rfl) _ _)) (HC _ G0) ?_
  rintro e V1 ⟨rfl, g1x⟩
  have GG1 := Gr.trans G0 g1x
  refine ⟨_, rfl, keep _ GG1, ?_⟩
  refine st_one (i := 5) (oi := ad6_5) (by kernel_rfl) rfl rfl ?_
  have GG2 := Gr.alloc GG1 (.cells #[.int .i64 (s : Int), .int .i64 (c : Int)] 51)
  have y2_5 := al_new V1 (.cells #[.int .i64 (s : Int), .int .i64 (c : Int)] 51) _ rfl
  refine st_val (d := 22) rfl (rr_bsD _ _ _ _ _ _ _ _ s c (by simp [re_ne, re_eq, re_size, re_const, hsz, h2, h3, h4])) (keep _ GG2) ?_
  refine st_one (i := 6) (oi := ad6_6) (by kernel_rfl) rfl rfl ?_
  have GG3 := Gr.alloc GG2 (.cells #[.slice ma mn mc, .slice (some ⟨V1.heap.size, 0, none⟩) 1 1] 73)
  have y3_5 := (Below.heap_alloc (V1.alloc (.cells #[.int .i64 (s : Int), .int .i64 (c : Int)] 51)) (.cells #[.slice ma mn mc, .slice (some ⟨V1.heap.size, 0, none⟩) 1 1] 73) _ (Array.getElem?_eq_some_iff.1 y2_5).1).trans y2_5
  have y3_6 := al_new (V1.alloc (.cells #[.int .i64 (s : Int), .int .i64 (c : Int)] 51)) (.cells #[.slice ma mn mc, .slice (some ⟨V1.heap.size, 0, none⟩) 1 1] 73) _ rfl
  refine st_val (d := 23) rfl (rr_bs2 _ _ _ _ _ _ _ _ _ ma mn mc _ 1 1 (by simp [re_ne, re_eq, re_size, re_const, hsz, h2, h3, h4]) (by simp [re_ne, re_eq, re_size, re_const, hsz, h2, h3, h4])) (keep _ GG3) ?_
  exact fin _ _ _ _ rfl (keep _ GG3) GG3 y3_5 y3_6
 ·have GG4 := Gr.alloc G0 (.cells #[.int .i64 (s : Int), .int .i64 (c : Int)] 51)
  have y4_5 := al_new w.drew (.cells #[.int .i64 (s : Int), .int .i64 (c : Int)] 51) _ rfl
  refine st_val (d := 22) rfl (rr_bsD _ _ _ _ _ _ _ _ s c (by simp [re_ne, re_eq, re_size, re_const, hsz, h2, h3, h4])) (keep _ GG4) ?_
  refine st_pair (i := 1) (j := 6) (oi := ad6_1) (oj := ad6_6) (by kernel_rfl) rfl rfl rfl rfl ?_ ?_
  ·refine st_call (d := 18) rfl (rr_enter1 _ _ _ _ _ _ _ 172 _ (.agg #[vv, .slice ma mn mc]) _ (by simp [re_ne, re_eq, re_size, re_const, hsz, h2, h3, h4]) rfl (rr_enter_of Tryz.func172 (by kernel_rfl) (by kernel_rfl) _ _)) (HC _ GG4) ?_
   rintro e V5 ⟨rfl, g5x⟩
   have GG5 := Gr.trans GG4 g5x
   have y5_5 := (Below.block g5x _ (Array.getElem?_eq_some_iff.1 y4_5).1).trans y4_5
   refine ⟨_, rfl, keep _ GG5, ?_⟩
   refine st_one (i := 6) (oi := ad6_6) (by kernel_rfl) rfl rfl ?_
   have GG6 := Gr.alloc GG5 (.cells #[.slice ma mn mc, .slice (some ⟨w.drew.heap.size, 0, none⟩) 1 1] 73)
   have y6_5 := (Below.heap_alloc V5 (.cells #[.slice ma mn mc, .slice (some ⟨w.drew.heap.size, 0, none⟩) 1 1] 73) _ (Array.getElem?_eq_some_iff.1 y5_5).1).trans y5_5
   have y6_6 := al_new V5 (.cells #[.slice ma mn mc, .slice (some ⟨w.drew.heap.size, 0, none⟩) 1 1] 73) _ rfl
   refine st_val (d := 23) rfl (rr_bs2 _ _ _ _ _ _ _ _ _ ma mn mc _ 1 1 (by simp [re_ne, re_eq, re_size, re_const, hsz, h2, h3, h4]) (by simp [re_ne, re_eq, re_size, re_const, hsz, h2, h3, h4])) (keep _ GG6) ?_
   rw [re_comm _ 22 18 _ _ (by decide)]
   exact fin _ _ _ _ rfl (keep _ GG6) GG6 y6_5 y6_6
  ·have GG7 := Gr.alloc GG4 (.cells #[.slice ma mn mc, .slice (some ⟨w.drew.heap.size, 0, none⟩) 1 1] 73)
   have y7_5 := (Below.heap_alloc (w.drew.alloc (.cells #[.int .i64 (s : Int), .int .i64 (c : Int)] 51)) (.cells #[.slice ma mn mc, .slice (some ⟨w.drew.heap.size, 0, none⟩) 1 1] 73) _ (Array.getElem?_eq_some_iff.1 y4_5).1).trans y4_5
   have y7_6 := al_new (w.drew.alloc (.cells #[.int .i64 (s : Int), .int .i64 (c : Int)] 51)) (.cells #[.slice ma mn mc, .slice (some ⟨w.drew.heap.size, 0, none⟩) 1 1] 73) _ rfl
   refine st_val (d := 23) rfl (rr_bs2 _ _ _ _ _ _ _ _ _ ma mn mc _ 1 1 (by simp [re_ne, re_eq, re_size, re_const, hsz, h2, h3, h4]) (by simp [re_ne, re_eq, re_size, re_const, hsz, h2, h3, h4])) (keep _ GG7) ?_
   refine st_one (i := 1) (oi := ad6_1) (by kernel_rfl) rfl rfl ?_
   refine st_call (d := 18) rfl (rr_enter1 _ _ _ _ _ _ _ 172 _ (.agg #[vv, .slice ma mn mc]) _ (by simp [re_ne, re_eq, re_size, re_const, hsz, h2, h3, h4]) rfl (rr_enter_of Tryz.func172 (by kernel_rfl) (by kernel_rfl) _ _)) (HC _ GG7) ?_
   rintro e V8 ⟨rfl, g8x⟩
   have GG8 := Gr.trans GG7 g8x
   have y8_5 := (Below.block g8x _ (Array.getElem?_eq_some_iff.1 y7_5).1).trans y7_5
   have y8_6 := (Below.block g8x _ (Array.getElem?_eq_some_iff.1 y7_6).1).trans y7_6
   refine ⟨_, rfl, keep _ GG8, ?_⟩
   rw [re_comm _ 23 18 _ _ (by decide), re_comm _ 22 18 _ _ (by decide)]
   exact fin _ _ _ _ rfl (keep _ GG8) GG8 y8_5 y8_6
end Go.Proofs.YtglbnggkkjhokaaGreat
/- know.common: the dots of a list that are in a set. -/
namespace Rm
def comL (l : List (Nat × Nat)) (v : List Nat) (m : List (Nat × Nat)) : List (Nat × Nat) := l.filter fun d => memB v m d.1 d.2
theorem comL_snoc {l : List (Nat × Nat)} {v : List Nat} {m : List (Nat × Nat)} {i s c : Nat} (h : l[i]? = some (s, c)) : comL (l.take (i + 1)) v m = if memB v m s c then comL (l.take i) v m ++ [(s, c)] else comL (l.take i) v m := by
 unfold comL
 rw [take_snoc h, List.filter_append]
 by_cases e : memB v m s c = true
 ·simp [e]
 ·simp [e]
theorem comL_len (l : List (Nat × Nat)) (v : List Nat) (m : List (Nat × Nat)) (i : Nat) : (comL (l.take i) v m).length ≤ i := by
 unfold comL
 exact Nat.le_trans (List.length_filter_le _ _) (by simp; omega)
end Rm
namespace Go.Proofs.YtglbnggkkjhokaaGreat
open Go.RowKit Rm
def ComAt (base : Nat) (L : List (Nat × Nat)) (p1 : Option Addr) (p2 p3 : Nat) (w : World) : Prop := p2 = L.length ∧ w.ownsRow base 51 2 (.slice p1 p2 p3) L.length (flat (pairs L))
theorem common_any (lv : Value) (l : List (Nat × Nat)) (k : Value) (v : List Nat) (m : List (Nat × Nat)) (w : World) (hr : Rd2 w lv (pairs l)) (hll : l.length ≤ 1000) (hd : ∀ d ∈ l, inR d.1 d.2) (hk : KnR w k (ints v) (pairs m)) (ho : OkV v m) (hm : m.length ≤ 60) :
  Calls Tryz.prog 241 #[lv, k] w fun e w' => ∃ p1 p2 p3, e = .returned (.slice p1 p2 p3) ∧ Gr w w' ∧ ComAt w.heap.size (comL l v m) p1 p2 p3 w' := by
 obtain ⟨i0, hi0, hz0, hz1, hz2⟩ := info_parts ccd_info
 have HH : Hid (∀ s c W, inR s c → Gr w W → Calls Tryz.prog 204 #[k, .agg #[.int .i64 (s : Int), .int .i64 (c : Int)]] W fun e w' => e = .returned (.bool (memB v m s c)) ∧ Gr W w') := fun s c W hd g => khas_any k v m s c W (hk.gr g) ho hm hd
 obtain ⟨vv, mv, rfl, r1, r2, r3⟩ := hk
 obtain ⟨va, vc, rfl, -⟩ := id r1
 obtain ⟨ma, mc, rfl, -⟩ := id r2
 obtain ⟨a, c, rfl, hc, hx⟩ := hr
 have HX := Lib.hid hx
 have HD := Lib.hid hd
 have HPL : (pairs l).length = l.length := pairs_len l
 generalize hN1 : (ints v).length = N1 at *
 generalize hN2 : (pairs m).length = N2 at *
 rw [HPL] at hc
 rw [HPL]
 have hlI : (l.length : Int) ≤ 1000 := by omega
 have G1 := Lib.hid ((Gr.refl w).alloc (.cells #[.slice va N1 vc, .slice ma N2 mc] 75))
 have B1 : Hid ((w.alloc (.cells #[.slice va N1 vc, .slice ma N2 mc] 75)).heap[w.heap.size]? = some (.cells #[.slice va N1 vc, .slice ma N2 mc] 75 (0, 0))) := al_new _ _ _ rfl
 have S1 : (w.alloc (.cells #[.slice va N1 vc, .slice ma N2 mc] 75)).heap.size = w.heap.size + 1 := by simp
 have HS1 := Lib.hid S1
 clear hx hd r1 r2 r3 ho hN1 hN2 S1
 go_enter Tryz.func241, Tryz.ntmps241
 go_wp2_with fail
 generalize w.alloc (.cells #[.slice va N1 vc, .slice ma N2 mc] 75) = w1 at *
 go_loopg [5, 10] l.length (fun gh rv ix wr => ∃ i : Nat, i ≤ l.length ∧ l.length - i ≤ gh ∧ ix = .int .i64 (i : Int) ∧ Gr w1 wr ∧ wr.ownsRow (w.heap.size + 1) 51 2 rv (comL (l.take i) v m).length (flat (pairs (comL (l.take i) v m))))
 case atStart => exact ⟨0, by omega, by omega, rfl, Gr.refl _, World.ownsRow_nil _ _ _ _⟩
 case round =>
  obtain ⟨i, hi, hgh, rfl, gr, hown⟩ := hrel
  obtain ⟨ra, rc, hre, hrc⟩ := own_formD hown
  subst hre
  have hrl := comL_len l v m i
  have hrlI : ((comL (l.take i) v m).length : Int) ≤ 1000 := by omega
  have GR := Lib.hid gr
  have HO := Lib.hid hown
  have B2 := (Below.block gr _ (Array.getElem?_eq_some_iff.1 B1.out).1).trans B1.out
  have hsz : w.heap.size + 1 ≤ wr.heap.size := by rw [← HS1.out]; exact gr.le
  clear gr hown
  by_cases hil : i < l.length
  ·obtain ⟨⟨s, cc⟩, hd⟩ : ∃ d, l[i]? = some d := ⟨_, List.getElem?_eq_getElem hil⟩
   obtain ⟨b, off, hab, hb, hcell⟩ := HX.out (by intro e; rw [e] at HPL; simp at HPL; omega)
   subst hab
   have G01 := Lib.hid (G1.out.trans GR.out)
   have q1 := (G01.out.cells.1 b (off + i * 2) hb).trans (hcell i _ (pairs_at hd)).1
   have q2 := (G01.out.cells.1 b (off + i * 2 + 1) hb).trans (hcell i _ (pairs_at hd)).2
   simp only at q1 q2
   have hin : Hid (inR s cc) := HD.out _ (List.mem_of_getElem? hd)
   have HC := Lib.hid (comL_snoc (v := v) (m := m) hd)
   have HH1 := Lib.hid (HH.out s cc (wr.alloc (.cells #[.int .i64 (s : Int), .int .i64 (cc : Int)] 51)) hin.out (G01.out.alloc _))
   have c0 := kc0 B2
   have c1 := kc1 B2
   have hg0 : w.heap.size < wr.heap.size := by omega
   have hiI : (i : Int) < (l.length : Int) := by omega
   have T0 := Lib.hid (Two.new wr s cc 51)
   have A0 := Lib.hid ((Gr.refl wr).alloc (.cells #[.int .i64 (s : Int), .int .i64 (cc : Int)] 51))
   have HFl : Hid (∀ L : List (Nat × Nat), flat (pairs L) ++ [.int .i64 (s : Int), .int .i64 (cc : Int)] = flat (pairs (L ++ [(s, cc)]))) := fun L => by simp [pairs, flat]
   clear hd hcell HX HD HH B2
   generalize comL (l.take i) v m = L at *
   cases hq : memB v m s cc
   ·rw [hq] at HH1 HC
    go_wp2_with (go_at_call 204; refine HH1.out.mono ?_; rintro e w3 ⟨rfl, g3⟩; have G3 := Lib.hid (A0.out.trans g3); clear g3)
    go_roundg (l.length - (i + 1))
    case measure => omega
    case rel => exact ⟨i + 1, by omega, Nat.le_refl _, by go_num, GR.out.trans G3.out, by rw [HC.out]; exact kown_gr HO.out G3.out⟩
   ·rw [hq] at HH1 HC
    go_wp2_with (first
     | (go_at_call 204; refine HH1.out.mono ?_; rintro e w3 ⟨rfl, g3⟩; have G3 := Lib.hid (A0.out.trans g3); obtain ⟨t0, t1, t2⟩ := T0.out.gr g3; have HO3 := Lib.hid (kown_gr HO.out G3.out); have hsz3 := Nat.le_trans hsz G3.out.le; clear g3 q1 q2 c0 c1)
     | (at_builtin; refine wpList_append_own _ rfl (.tmp 17) (.tmp 19) 73 rfl (w.heap.size + 1) 51 i0 _ 2 16 Tryz.underlying73 hi0 hz0 hz1 hz2 rfl (by omega) _ _ _ rfl (HO3.out.alloc _) ⟨w3.heap.size, 0, none⟩ 1 1 [.int .i64 (s : Int), .int .i64 (cc : Int)] rfl rfl (new2 _ _ _ _) (one2 _ _) (by simp only [maxLen]; omega) (by omega) (by simp; omega) ?_; intro v1 w5 hown hg1 _))
    have HO5 : Hid (w5.ownsRow (w.heap.size + 1) 51 2 v1 (L ++ [(s, cc)]).length (flat (pairs (L ++ [(s, cc)])))) := by
     rw [← HFl.out, List.length_append]; exact hown
    have G5 : Hid (Gr w1 w5) := ((GR.out.trans G3.out).alloc _).grown hg1 (fun q e => by rw [HS1.out]; exact (HO3.out.lt q e).1)
    go_roundg (l.length - (i + 1))
    case measure => omega
    case rel => exact ⟨i + 1, by omega, Nat.le_refl _, by go_num, G5.out, by rw [HC.out]; exact HO5.out⟩
  ·obtain rfl : i = l.length := by omega
   go_wp2
   go_ret
   refine ⟨_, _, _, rfl, G1.out.trans GR.out, ?_⟩
   have := HO.out
   rw [List.take_length] at this ⊢
   exact ⟨rfl, own_less this (by omega)⟩
end Go.Proofs.YtglbnggkkjhokaaGreat
/- know.Join, Meet of sets in their form. -/
namespace Rm
open Go Go.RowKit
theorem cArr_ext {a b : List Nat} (h : ∀ s, s < 5 → cv a s = cv b s) : cArr a = cArr b := by
 unfold cArr
 rw [h 0 (by omega), h 1 (by omega), h 2 (by omega), h 3 (by omega), h 4 (by omega)]
def mixV (f : Nat → Nat → Nat) (v v' : List Nat) (i : Nat) : List Nat := (List.range 5).map fun j => if j < i then f (cv v j) (cv v' j) else cv v j
theorem mixV_cv (f : Nat → Nat → Nat) (v v' : List Nat) (i s : Nat) (hs : s < 5) : cv (mixV f v v' i) s = if s < i then f (cv v s) (cv v' s) else cv v s := by
 unfold mixV cv
 rw [List.getD_eq_getElem?_getD, List.getElem?_map, List.getElem?_range hs]
 rfl
theorem mixV_zero (f : Nat → Nat → Nat) (v v' : List Nat) : cArr (mixV f v v' 0) = cArr v := cArr_ext fun s hs => by rw [mixV_cv f v v' 0 s hs, if_neg (by omega)]
theorem mixV_step (f : Nat → Nat → Nat) (v v' : List Nat) (i : Nat) (hi : i < 5) : (cArr (mixV f v v' i)).setIfInBounds i (.int .i64 ((f (cv v i) (cv v' i) : Nat) : Int)) = cArr (mixV f v v' (i + 1)) := by
 rw [cArr_setC _ _ _ hi]
 refine cArr_ext fun s hs => ?_
 rw [cv_setC _ _ _ _ hi hs, mixV_cv f v v' (i + 1) s hs]
 by_cases e : s = i
 ·subst e; rw [if_pos rfl, if_pos (by omega)]
 ·rw [if_neg e, mixV_cv f v v' i s hs]
  by_cases e' : s < i
  ·rw [if_pos e', if_pos (by omega)]
  ·rw [if_neg e', if_neg (by omega)]
theorem join_eq {v v' : List Nat} {m m' : List (Nat × Nat)} : EqD (upD (mixV max v v' 5) (m ++ m')) (orD (memB v m) (memB v' m')) := by
 rintro s c ⟨hs, h1, h2⟩
 rw [Bool.eq_iff_iff]
 unfold orD
 rw [Bool.or_eq_true, memB_iff, memB_iff]
 simp only [upD, Bool.or_eq_true, decide_eq_true_eq, List.contains_iff_mem, List.mem_append]
 rw [mixV_cv max v v' 5 s hs, if_pos hs]
 have : c ≤ max (cv v s) (cv v' s) ↔ c ≤ cv v s ∨ c ≤ cv v' s := by omega
 rw [this]
 constructor
 ·rintro (⟨_, q | q⟩ | q | q)
  ·exact .inl (.inl ⟨h1, q⟩)
  ·exact .inr (.inl ⟨h1, q⟩)
  ·exact .inl (.inr q)
  ·exact .inr (.inr q)
 ·rintro ((q | q) | (q | q))
  ·exact .inl ⟨h1, .inl q.2⟩
  ·exact .inr (.inl q)
  ·exact .inl ⟨h1, .inr q.2⟩
  ·exact .inr (.inr q)
theorem mix_le {f : Nat → Nat → Nat} (hf : ∀ a b, f a b ≤ max a b) {v v' : List Nat} (h : ∀ x ∈ v, x ≤ 1000) (h' : ∀ x ∈ v', x ≤ 1000) : ∀ s, s < 5 → cv (mixV f v v' 5) s ≤ 1000 := by
 intro s hs
 rw [mixV_cv f v v' 5 s hs, if_pos hs]
 have := hf (cv v s) (cv v' s)
 have := cv_le h s
 have := cv_le h' s
 omega
theorem OkV.ins {v : List Nat} {m : List (Nat × Nat)} (h : OkV v m) : ∀ d ∈ m, Rm.inR d.1 d.2 := fun d hd => by
 have := h.dots d hd
 exact ⟨this.1, by omega, this.2.1⟩
end Rm
namespace Go.Proofs.YtglbnggkkjhokaaGreat
open Go.RowKit Rm
theorem grown_setRow (w : World) (g : Nat) (cs : Array Value) : w.grownBy (w.setRow g cs) (some g) := ⟨rfl, rfl, rfl, by simp, fun k _ hk => setRow_other w g k _ (fun e => hk (by rw [e]))⟩
theorem own_setRow {w : World} {base g : Nat} {e : TypeId} {s n : Nat} {v : Value} {xs : List Value} (h : w.ownsRow base e s v n xs) (hg : g < base) (cs : Array Value) : (w.setRow g cs).ownsRow base e s v n xs := by
 refine h.kept (grown_setRow w g cs) ?_
 cases e : v.ownBlock with
 | none => exact .inl rfl
 | some b => exact .inr (fun e' => by have := (h.lt b e).1; have := Option.some.inj e'; omega)
theorem KnO.setRow {base g : Nat} {w : World} {k : Value} {v : List Nat} {m : List (Nat × Nat)} (h : KnO base w k v m) (hg : g < base) (cs : Array Value) : KnO base (w.setRow g cs) k v m := by
 obtain ⟨vv, mv, e, h1, h2⟩ := h
 exact ⟨vv, mv, e, own_setRow h1 hg cs, own_setRow h2 hg cs⟩
theorem frmK.setRow {base g : Nat} {w : World} {e : Ending} {D : DS} (h : frmK base w e D) (hg : g < base) (cs : Array Value) : frmK base (w.setRow g cs) e D := by
 obtain ⟨k, r, h1, ⟨h2, h3, h4⟩ | ⟨h2, h3, h4⟩⟩ := h
 ·exact ⟨k, r, h1, .inl ⟨h2, h3, h4.setRow hg cs⟩⟩
 ·exact ⟨k, r, h1, .inr ⟨h2, h3, h4.setRow hg cs⟩⟩
theorem frmK.form {base : Nat} {w : World} {e : Ending} {D : DS} (h : frmK base w e D) : ∃ a1 n1 c1 a2 n2 c2 r, e = .returned (.tuple #[.agg #[.slice a1 n1 c1, .slice a2 n2 c2], .int .i64 r]) ∧ frmK base w (.returned (.tuple #[.agg #[.slice a1 n1 c1, .slice a2 n2 c2], .int .i64 r])) D := by
 obtain ⟨k, r, rfl, h1⟩ := id h
 have hk : ∃ v m, KnO base w k v m := by rcases h1 with ⟨_, _, q⟩ | ⟨_, _, q⟩ <;> exact ⟨_, _, q⟩
 obtain ⟨v, m, vv, mv, rfl, o1, o2⟩ := hk
 obtain ⟨a1, c1, rfl, -⟩ := own_formD o1
 obtain ⟨a2, c2, rfl, -⟩ := own_formD o2
 exact ⟨_, _, _, _, _, _, _, rfl, h⟩
theorem src2 {W : World} {b : Nat} {u u' : Value} {t : TypeId} {fr : Nat × Nat} {n n' : Nat} {xs xs' : List Value} (hb : W.heap[b]? = some (.cells #[u, u'] t fr)) (h : RdC 2 W u n xs) (h' : RdC 2 W u' n' xs') : SrcD W b [(n, xs), (n', xs')] := by
 refine ⟨(Array.getElem?_eq_some_iff.1 hb).1, fun i p hp => ?_⟩
 match i, hp with
 | 0, hp => simp at hp; subst hp; exact ⟨u, kc0 hb, h⟩
 | 1, hp => simp at hp; subst hp; exact ⟨u', kc1 hb, h'⟩
 | i + 2, hp => simp at hp
theorem flat_two (l l' : List (Nat × Nat)) : catD [(l.length, flat (pairs l)), (l'.length, flat (pairs l'))] = flat (pairs (l ++ l')) := by simp [catD, pairs, flat]
theorem sum_two (l l' : List (Nat × Nat)) : sumD [(l.length, flat (pairs l)), (l'.length, flat (pairs l'))] = (l ++ l').length := by simp [sumD]
theorem concat_two {W : World} {b : Nat} {u u' : Value} {t : TypeId} {fr : Nat × Nat} {l l' : List (Nat × Nat)} (hb : W.heap[b]? = some (.cells #[u, u'] t fr)) (h : RdC 2 W u l.length (flat (pairs l))) (h' : RdC 2 W u' l'.length (flat (pairs l'))) (hl : l.length + l'.length ≤ 1000) :
    Calls Tryz.prog 174 #[.slice (some ⟨b, 0, none⟩) 2 2] W fun e W' => ∃ u, e = .returned u ∧ Gr W W' ∧ W'.ownsRow W.heap.size 51 2 u (l ++ l').length (flat (pairs (l ++ l'))) := by
  have hs := sum_two l l'
  have := concatD [(l.length, flat (pairs l)), (l'.length, flat (pairs l'))] b 2 W (src2 hb h h') (by rw [hs, List.length_append]; exact hl) (by simp)
  rw [hs, flat_two] at this
  exact this
theorem build_then {w W W' : World} {u : Value} {V : List Nat} {L : List (Nat × Nat)} (D : DS) (hD : EqD (upD V L) D) (hv : ∀ s, s < 5 → cv V s ≤ 1000) (hL : ∀ d ∈ L, inR d.1 d.2) (hlen : L.length ≤ 1000) (g : Gr w W) (g' : Gr W W') (ho : W'.ownsRow W.heap.size 51 2 u L.length (flat (pairs L))) :
    Calls Tryz.prog 173 #[.agg (cArr V), u] W' fun e W'' => ∃ a1 n1 c1 a2 n2 c2 r, e = .returned (.tuple #[.agg #[.slice a1 n1 c1, .slice a2 n2 c2], .int .i64 r]) ∧ Gr w W'' ∧ frmK w.heap.size W'' (.returned (.tuple #[.agg #[.slice a1 n1 c1, .slice a2 n2 c2], .int .i64 r])) D := by
  refine (build_any V L u W' W.heap.size hv hL hlen ho g'.le).mono ?_
  rintro e W'' ⟨h1, h2⟩
  obtain ⟨a1, n1, c1, a2, n2, c2, r, he, hf⟩ := (h1.congr hD).form
  exact ⟨a1, n1, c1, a2, n2, c2, r, he, Below.trans (g.trans g') (Below.mono h2 g.le), hf.less (g.trans g').le⟩
theorem join_ok (k k' : Value) (v v' : List Nat) (m m' : List (Nat × Nat)) (w : World) (hk : KnR w k (ints v) (pairs m)) (hk' : KnR w k' (ints v') (pairs m')) (ho : OkV v m) (ho' : OkV v' m') (hl : m.length ≤ 60) (hl' : m'.length ≤ 60) :
  Calls Tryz.prog 127 #[k, k'] w fun e w' => frmK w.heap.size w' e (orD (memB v m) (memB v' m')) ∧ Gr w w' := by
 have H1 : Hid (∀ W, Gr w W → Calls Tryz.prog 171 #[k, k'] W fun e w' => e = .returned (.int .i64 0) ∧ Gr W w') := fun W g => by
  have := kcheckBoth k k' _ _ _ _ W (hk.gr g) (hk'.gr g)
  rw [ho.chk hl, ho'.chk hl'] at this
  simpa using this
 have HC : Hid (∀ W, Gr w W → Calls Tryz.prog 172 #[k] W fun e w' => e = .returned (.agg (cArr v)) ∧ Gr W w') := fun W g => countsOf_any k v _ W (hk.gr g) ho.len
 have HC' : Hid (∀ W, Gr w W → Calls Tryz.prog 172 #[k'] W fun e w' => e = .returned (.agg (cArr v')) ∧ Gr W w') := fun W g => countsOf_any k' v' _ W (hk'.gr g) ho'.len
 obtain ⟨vv, mv, rfl, r1, r2, r3⟩ := hk
 obtain ⟨vv', mv', rfl, r1', r2', r3'⟩ := hk'
 obtain ⟨va, vc, rfl, -⟩ := id r1
 obtain ⟨ma, mc, rfl, -⟩ := id r2
 obtain ⟨va', vc', rfl, -⟩ := id r1'
 obtain ⟨ma', mc', rfl, -⟩ := id r2'
 have hpl := pairs_len m
 have hpl' := pairs_len m'
 have R3 := Lib.hid r3
 have R3' := Lib.hid r3'
 have HLv := Lib.hid (fun s => cv_le ho.le s)
 have HLv' := Lib.hid (fun s => cv_le ho'.le s)
 have HML := Lib.hid (mix_le (f := max) (fun a b => by omega) ho.le ho'.le)
 have HIN := Lib.hid ho.ins
 have HIN' := Lib.hid ho'.ins
 generalize hN1 : (ints v).length = N1 at *
 generalize hN2 : (pairs m).length = N2 at *
 generalize hN1' : (ints v').length = N1' at *
 generalize hN2' : (pairs m').length = N2' at *
 have HN2 := Lib.hid hpl
 have HN2' := Lib.hid hpl'
 clear r1 r2 r3 r1' r2' r3' ho ho' hN1 hN2 hN1' hN2' hpl hpl'
 generalize hU : (Value.slice va N1 vc) = U at *
 generalize hU' : (Value.slice va' N1' vc') = U' at *
 have HU := Lib.hid hU
 have HU' := Lib.hid hU'
 clear hU hU'
 have G3 := Lib.hid ((((Gr.refl w).alloc (.cells #[U, .slice ma N2 mc] 75)).alloc (.cells #[U', .slice ma' N2' mc'] 75)).alloc (.cells #[.slice none 0 0, .slice none 0 0] 75))
 have B0 : Hid ((((w.alloc (.cells #[U, .slice ma N2 mc] 75)).alloc (.cells #[U', .slice ma' N2' mc'] 75)).alloc (.cells #[.slice none 0 0, .slice none 0 0] 75)).heap[w.heap.size]? = some (.cells #[U, .slice ma N2 mc] 75 (0, 0))) := (al_old _ _ _ (by simp; omega)).trans ((al_old _ _ _ (by simp)).trans (al_new _ _ _ rfl))
 have B1 : Hid ((((w.alloc (.cells #[U, .slice ma N2 mc] 75)).alloc (.cells #[U', .slice ma' N2' mc'] 75)).alloc (.cells #[.slice none 0 0, .slice none 0 0] 75)).heap[w.heap.size + 1]? = some (.cells #[U', .slice ma' N2' mc'] 75 (0, 0))) := (al_old _ _ _ (by simp)).trans (al_new _ _ _ (by simp))
 have B4 : Hid ((((w.alloc (.cells #[U, .slice ma N2 mc] 75)).alloc (.cells #[U', .slice ma' N2' mc'] 75)).alloc (.cells #[.slice none 0 0, .slice none 0 0] 75)).heap[w.heap.size + 1 + 1]? = some (.cells #[.slice none 0 0, .slice none 0 0] 75 (0, 0))) := al_new _ _ _ (by simp)
 go_enter Tryz.func127, Tryz.ntmps127
 go_wp2_with (go_at_call 171; refine (H1.out _ G3.out).mono ?_; rintro e w4 ⟨rfl, g4⟩; have G4 := Lib.hid (G3.out.trans g4); have b0 := (Below.block g4 _ (Array.getElem?_eq_some_iff.1 B0.out).1).trans B0.out; have b1 := (Below.block g4 _ (Array.getElem?_eq_some_iff.1 B1.out).1).trans B1.out; have b4 := (Below.block g4 _ (Array.getElem?_eq_some_iff.1 B4.out).1).trans B4.out; clear g4 B0 B1 B4 G3 H1)
 generalize hg0 : w.heap.size = g0 at *
 have l0 := (Array.getElem?_eq_some_iff.1 b0).1
 have l1 := (Array.getElem?_eq_some_iff.1 b1).1
 have l4 := (Array.getElem?_eq_some_iff.1 b4).1
 refine jn4_reg _ (fun _ _ _ _ _ h => h) _ w4 g0 (g0 + 1) U (.slice ma N2 mc) U' (.slice ma' N2' mc') (cArr v) (cArr v') rfl rfl rfl ⟨b0, b1⟩ l0 l1 rfl (cArr_one v) rfl (cArr_one v') (fun W g => HC.out W (G4.out.trans g)) (fun W g => HC'.out W (G4.out.trans g)) (fun w5 b7 b8 g5 l7 l8 hne e7 e8 => ?_)
 simp only [Act.put, List.setIfInBounds_toArray, List.set_cons_zero, List.set_cons_succ]
 have G5 := Lib.hid (G4.out.trans g5)
 have d0 := Lib.hid ((Below.block g5 _ l0).trans b0)
 have d1 := Lib.hid ((Below.block g5 _ l1).trans b1)
 have d4 := Lib.hid ((Below.block g5 _ l4).trans b4)
 have D7 : Hid (w5.heap[b7]? = some (.cells (cArr (mixV max v v' 0)) 237 (0, 0))) := by rw [mixV_zero]; exact e7
 have D8 := Lib.hid e8
 have hL5 : Hid (w4.heap.size ≤ w5.heap.size) := g5.le
 clear g5 b0 b1 b4 e7 e8 HC HC'
 go_wp2_with fail
 go_loopg [21] 5 (fun gh ix wr => ∃ i : Nat, i ≤ 5 ∧ 5 - i ≤ gh ∧ ix = .int .i64 (i : Int) ∧ Below w4.heap.size w5 wr ∧ wr.heap[b7]? = some (.cells (cArr (mixV max v v' i)) 237 (0, 0)) ∧ wr.heap[b8]? = some (.cells (cArr v') 237 (0, 0)))
 case atStart => exact ⟨0, by omega, by omega, rfl, Below.refl _ _, D7.out, D8.out⟩
 case round =>
  obtain ⟨i, hi, hgh, rfl, hb, e7, e8⟩ := hrel
  have HB := Lib.hid hb
  have E7 := Lib.hid e7
  have E8 := Lib.hid e8
  by_cases hi5 : i < 5
  ·have c7 : wr.cell? ⟨b7, i, none⟩ = some (.int .i64 (cv v i : Nat)) := by
    have := cell_cArr e7 hi5
    rw [mixV_cv max v v' i i hi5, if_neg (by omega)] at this
    exact this
   have c8 := cell_cArr e8 hi5
   have f7 : wr.frozen? ⟨b7, i, none⟩ = false := by simp [World.frozen?, e7]
   have HST := Lib.hid (mixV_step max v v' i hi5)
   have hiI : (i : Int) < 5 := by omega
   have q1 : (cv v i : Int) ≤ 1000 := by have := HLv.out i; omega
   have q2 : (cv v' i : Int) ≤ 1000 := by have := HLv'.out i; omega
   have hmx : ((max (cv v i) (cv v' i) : Nat) : Int) = max ((cv v i : Nat) : Int) ((cv v' i : Nat) : Int) := by omega
   have HMX := Lib.hid hmx
   clear e7 e8 hb hmx
   generalize cv v i = x at *
   generalize cv v' i = y at *
   go_wp2_with fail
   go_still_tail 9, (by kernel_rfl)
   repeat still_step
   change wpList _ _ _ _ _ wr.drew
   have HX : Hid (Below w4.heap.size w5 ((wr.drew.setCell ⟨b7, i, none⟩ (.int .i64 (max (x : Int) (y : Int))))) ∧ (wr.drew.setCell ⟨b7, i, none⟩ (.int .i64 (max (x : Int) (y : Int)))).heap[b7]? = some (.cells (cArr (mixV max v v' (i + 1))) 237 (0, 0)) ∧ (wr.drew.setCell ⟨b7, i, none⟩ (.int .i64 (max (x : Int) (y : Int)))).heap[b8]? = some (.cells (cArr v') 237 (0, 0))) := by
    refine ⟨HB.out.drew.setCell l7 _, ?_, ?_⟩
    ·rw [← HMX.out, ← HST.out]
     exact hsc (w := wr.drew) E7.out
    ·exact (Below.heap_setCell wr.drew _ _ _ (Ne.symm hne)).trans E8.out
   go_wp2_with fail
   go_roundg (5 - (i + 1))
   case measure => omega
   case rel => exact ⟨i + 1, by omega, Nat.le_refl _, by go_num, HX.out.1, HX.out.2.1, HX.out.2.2⟩
  ·obtain rfl : i = 5 := by omega
   have GW : Hid (Gr w wr) := Below.trans G5.out (Below.mono HB.out (by rw [hg0]; omega))
   have k0 := (HB.out.block _ l0).trans d0.out
   have k1 := (HB.out.block _ l1).trans d1.out
   have k4 := (HB.out.block _ l4).trans d4.out
   have m0 := (Array.getElem?_eq_some_iff.1 k0).1
   have m1 := (Array.getElem?_eq_some_iff.1 k1).1
   have m4 := (Array.getElem?_eq_some_iff.1 k4).1
   have m7 := (Array.getElem?_eq_some_iff.1 e7).1
   have hR3 : Hid (∀ W, Gr wr W → RdC 2 W (.slice ma N2 mc) m.length (flat (pairs m))) := fun W g => by
    have := (R3.out.gr (GW.out.trans g))
    rw [HN2.out] at this ⊢
    exact this
   have hR3' : Hid (∀ W, Gr wr W → RdC 2 W (.slice ma' N2' mc') m'.length (flat (pairs m'))) := fun W g => by
    have := (R3'.out.gr (GW.out.trans g))
    rw [HN2'.out] at this ⊢
    exact this
   clear e8 E8 D7 D8 HLv HLv' hb
   generalize hV : mixV max v v' 5 = V at *
   go_wp2_with fail
   refine jn10_reg _ (fun _ _ _ _ _ h => h) _ wr g0 (g0 + 1) (g0 + 1 + 1) b7 U U' ma ma' N2 mc N2' mc' (cArr V) rfl rfl rfl rfl rfl ⟨⟨k0, k1⟩, e7⟩ m0 m1 m7 rfl k4 (by omega) (by omega) (by omega)
    (fun u W W' => W'.ownsRow W.heap.size 51 2 u (m ++ m').length (flat (pairs (m ++ m')))) (fun a1 n1 c1 a2 n2 c2 r W'' => frmK wr.heap.size W'' (.returned (.tuple #[.agg #[.slice a1 n1 c1, .slice a2 n2 c2], .int .i64 r])) (orD (memB v m) (memB v' m')))
    (fun W b g hb => concat_two hb (hR3.out W g) (hR3'.out W g) (by omega))
    (fun W W' u g g' f => build_then (orD (memB v m) (memB v' m')) (by rw [← hV]; exact join_eq) HML.out (fun d hd => (List.mem_append.1 hd).elim (HIN.out d) (HIN'.out d)) (by rw [List.length_append]; omega) g g' f) (fun W b39 u a1 n1 c1 a2 n2 c2 r g f => ?_)
   simp only [Act.put, List.setIfInBounds_toArray, List.set_cons_zero, List.set_cons_succ]
   have k4' := (Below.block g _ m4).trans k4
   have k5 := setRow_heap W (g0 + 1 + 1) _ #[.slice a1 n1 c1, .slice a2 n2 c2] _ _ k4'
   have GF : Hid (Gr w (W.setRow (g0 + 1 + 1) #[.slice a1 n1 c1, .slice a2 n2 c2])) := below_setRow (GW.out.trans g) (by omega) _
   have HF := Lib.hid ((f.setRow m4 #[.slice a1 n1 c1, .slice a2 n2 c2]).less (base' := w.heap.size) GW.out.le)
   generalize W.setRow (g0 + 1 + 1) #[.slice a1 n1 c1, .slice a2 n2 c2] = w9 at *
   go_wp2_with fail
   refine bodyPost_ret (res_know Tryz.results127 _ _ (g0 + 1 + 1) _ _ _ rfl rfl (kc0 k5) (kc1 k5)) rfl ⟨HF.out, GF.out⟩
end Go.Proofs.YtglbnggkkjhokaaGreat
/- know.Join, Meet, Within, Add, Count, Has: errors; Within, Add, Count, Has of sets in their form. -/
namespace Rm
open Go Go.RowKit
def leV (v v' : List Nat) : Bool := decide (cv v 0 ≤ cv v' 0) && decide (cv v 1 ≤ cv v' 1) && decide (cv v 2 ≤ cv v' 2) && decide (cv v 3 ≤ cv v' 3) && decide (cv v 4 ≤ cv v' 4)
theorem leV_iff (v v' : List Nat) : leV v v' = true ↔ ∀ s, s < 5 → cv v s ≤ cv v' s := by
 simp only [leV, Bool.and_eq_true, decide_eq_true_eq]
 constructor
 ·rintro ⟨⟨⟨⟨h0, h1⟩, h2⟩, h3⟩, h4⟩ s hs
  match s, hs with
  | 0, _ => exact h0
  | 1, _ => exact h1
  | 2, _ => exact h2
  | 3, _ => exact h3
  | 4, _ => exact h4
 ·intro h; exact ⟨⟨⟨⟨h 0 (by omega), h 1 (by omega)⟩, h 2 (by omega)⟩, h 3 (by omega)⟩, h 4 (by omega)⟩
def withB (v v' : List Nat) (m m' : List (Nat × Nat)) : Bool := leV v v' && decide ((comL m v' m').length = m.length)
theorem withB_iff {v v' : List Nat} {m m' : List (Nat × Nat)} (h : OkV v m) (h' : OkV v' m') : withB v v' m m' = true ↔ subD (memB v m) (memB v' m') := by
 unfold withB
 rw [Bool.and_eq_true, leV_iff, decide_eq_true_eq]
 constructor
 ·rintro ⟨h1, h2⟩ s c hr hm
  rcases (memB_iff ..).1 hm with q | q
  ·exact (memB_iff ..).2 (.inl ⟨q.1, Nat.le_trans q.2 (h1 s hr.1)⟩)
  ·have h3 := List.length_filter_eq_length_iff.1 h2
   exact h3 _ q
 ·intro hs
  refine ⟨fun s h5 => ?_, ?_⟩
  ·rcases Nat.lt_or_ge (cv v' s) (cv v s) with q | q
   ·exfalso
    have hle := cv_le h.le s
    have h1 := hs s (cv v' s + 1) ⟨h5, by omega, by omega⟩ ((memB_iff ..).2 (.inl ⟨by omega, by omega⟩))
    rcases (memB_iff ..).1 h1 with k | k
    ·omega
    ·have := (h'.dots _ k).2.2
     simp only at this
     omega
   ·exact q
  ·refine List.length_filter_eq_length_iff.2 fun d hd => ?_
   exact hs d.1 d.2 (h.ins d hd) ((memB_iff ..).2 (.inr hd))
theorem add_eq {v : List Nat} {m : List (Nat × Nat)} {a b : Nat} : EqD (upD v (m ++ [(a, b)])) (addD (memB v m) a b) := by
 intro s c _
 rw [Bool.eq_iff_iff]
 unfold addD
 rw [Bool.or_eq_true, memB_iff]
 simp only [upD, Bool.or_eq_true, decide_eq_true_eq, List.contains_iff_mem, List.mem_append, List.mem_singleton, Prod.mk.injEq]
 constructor
 ·rintro (q | q | q)
  ·exact .inl (.inl q)
  ·exact .inl (.inr q)
  ·exact .inr q
 ·rintro ((q | q) | q)
  ·exact .inl q
  ·exact .inr (.inl q)
  ·exact .inr (.inr q)
end Rm
namespace Go.Proofs.YtglbnggkkjhokaaGreat
open Go.RowKit Rm
theorem within_ok (k k' : Value) (v v' : List Nat) (m m' : List (Nat × Nat)) (w : World) (hk : KnR w k (ints v) (pairs m)) (hk' : KnR w k' (ints v') (pairs m')) (ho : OkV v m) (ho' : OkV v' m') (hl : m.length ≤ 60) (hl' : m'.length ≤ 60) :
  Calls Tryz.prog 211 #[k, k'] w fun e w' => e = .returned (.tuple #[.bool (withB v v' m m'), .int .i64 0]) ∧ Gr w w' := by
 have H1 : Hid (∀ W, Gr w W → Calls Tryz.prog 171 #[k, k'] W fun e w' => e = .returned (.int .i64 0) ∧ Gr W w') := fun W g => by
  have := kcheckBoth k k' _ _ _ _ W (hk.gr g) (hk'.gr g)
  rw [ho.chk hl, ho'.chk hl'] at this
  simpa using this
 have HC : Hid (∀ W, Gr w W → Calls Tryz.prog 172 #[k] W fun e w' => e = .returned (.agg (cArr v)) ∧ Gr W w') := fun W g => countsOf_any k v _ W (hk.gr g) ho.len
 have HC' : Hid (∀ W, Gr w W → Calls Tryz.prog 172 #[k'] W fun e w' => e = .returned (.agg (cArr v')) ∧ Gr W w') := fun W g => countsOf_any k' v' _ W (hk'.gr g) ho'.len
 have HQ : Hid (∀ lv W, Rd2 W lv (pairs m) → Gr w W → Calls Tryz.prog 241 #[lv, k'] W fun e W' => ∃ p1 p2 p3, e = .returned (.slice p1 p2 p3) ∧ Gr W W' ∧ ComAt W.heap.size (comL m v' m') p1 p2 p3 W') := fun lv W h g => common_any lv m k' v' m' W h (by omega) ho.ins (hk'.gr g) ho' hl'
 obtain ⟨vv, mv, rfl, r1, r2, r3⟩ := hk
 obtain ⟨vv', mv', rfl, r1', r2', r3'⟩ := hk'
 obtain ⟨va, vc, rfl, -⟩ := id r1
 obtain ⟨ma, mc, rfl, -⟩ := id r2
 obtain ⟨va', vc', rfl, -⟩ := id r1'
 obtain ⟨ma', mc', rfl, -⟩ := id r2'
 have R2 := Lib.hid r2
 have HLv := Lib.hid (fun s => cv_le ho.le s)
 have HLv' := Lib.hid (fun s => cv_le ho'.le s)
 have hpl := pairs_len m
 generalize hN1 : (ints v).length = N1 at *
 generalize hN2 : (pairs m).length = N2 at *
 generalize hN1' : (ints v').length = N1' at *
 generalize hN2' : (pairs m').length = N2' at *
 have HN2 := Lib.hid hpl
 clear r1 r2 r3 r1' r2' r3' ho ho' hN1 hN2 hN1' hN2' hpl
 generalize hU : (Value.slice va N1 vc) = U at *
 generalize hU' : (Value.slice va' N1' vc') = U' at *
 clear hU hU'
 have G3 := Lib.hid (((Gr.refl w).alloc (.cells #[U, .slice ma N2 mc] 75)).alloc (.cells #[U', .slice ma' N2' mc'] 75))
 have B0 : Hid (((w.alloc (.cells #[U, .slice ma N2 mc] 75)).alloc (.cells #[U', .slice ma' N2' mc'] 75)).heap[w.heap.size]? = some (.cells #[U, .slice ma N2 mc] 75 (0, 0))) := (al_old _ _ _ (by simp)).trans (al_new _ _ _ rfl)
 have B1 : Hid (((w.alloc (.cells #[U, .slice ma N2 mc] 75)).alloc (.cells #[U', .slice ma' N2' mc'] 75)).heap[w.heap.size + 1]? = some (.cells #[U', .slice ma' N2' mc'] 75 (0, 0))) := al_new _ _ _ (by simp)
 go_enter Tryz.func211, Tryz.ntmps211
 go_wp2_with (go_at_call 171; refine (H1.out _ G3.out).mono ?_; rintro e w4 ⟨rfl, g4⟩; have G4 := Lib.hid (G3.out.trans g4); have b0 := (Below.block g4 _ (Array.getElem?_eq_some_iff.1 B0.out).1).trans B0.out; have b1 := (Below.block g4 _ (Array.getElem?_eq_some_iff.1 B1.out).1).trans B1.out; clear g4 B0 B1 G3 H1)
 generalize hg0 : w.heap.size = g0 at *
 have l0 := (Array.getElem?_eq_some_iff.1 b0).1
 have l1 := (Array.getElem?_eq_some_iff.1 b1).1
 refine wi4_reg _ (fun _ _ _ _ _ h => h) _ w4 g0 (g0 + 1) U (.slice ma N2 mc) U' (.slice ma' N2' mc') (cArr v) (cArr v') rfl rfl rfl ⟨b0, b1⟩ l0 l1 rfl (cArr_one v) rfl (cArr_one v') (fun W g => HC.out W (G4.out.trans g)) (fun W g => HC'.out W (G4.out.trans g)) (fun w5 b7 b8 g5 l7 l8 hne e7 e8 => ?_)
 simp only [Act.put, List.setIfInBounds_toArray, List.set_cons_zero, List.set_cons_succ]
 have G5 := Lib.hid (G4.out.trans g5)
 have d0 := Lib.hid ((Below.block g5 _ l0).trans b0)
 have d1 := Lib.hid ((Below.block g5 _ l1).trans b1)
 have D7 := Lib.hid e7
 have D8 := Lib.hid e8
 clear g5 b0 b1 e7 e8 HC HC'
 go_wp2_with fail
 go_loopg [20] 5 (fun gh ix wr => ∃ i : Nat, i ≤ 5 ∧ 5 - i ≤ gh ∧ ix = .int .i64 (i : Int) ∧ (∃ q, wr = w5.drewN q) ∧ ∀ s, s < i → cv v s ≤ cv v' s)
 case atStart => exact ⟨0, by omega, by omega, rfl, ⟨0, rfl⟩, fun s hs => by omega⟩
 case round =>
  obtain ⟨i, hi, hgh, rfl, ⟨q, hwr⟩, hall⟩ := hrel
  have HW := Lib.hid hwr
  have HA := Lib.hid hall
  have e7 : wr.heap[b7]? = some (.cells (cArr v) 237 (0, 0)) := by rw [hwr]; exact D7.out
  have e8 : wr.heap[b8]? = some (.cells (cArr v') 237 (0, 0)) := by rw [hwr]; exact D8.out
  have GW : Hid (Gr w wr) := by rw [hwr]; exact G5.out.drewN q
  clear hwr hall
  by_cases hi5 : i < 5
  ·have c7 := cell_cArr e7 hi5
   have c8 := cell_cArr e8 hi5
   have hiI : (i : Int) < 5 := by omega
   have q1 : (cv v i : Int) ≤ 1000 := by have := HLv.out i; omega
   have q2 : (cv v' i : Int) ≤ 1000 := by have := HLv'.out i; omega
   have HI : Hid (¬ cv v i ≤ cv v' i → withB v v' m m' = false) := fun h => by
    unfold withB
    have : leV v v' = false := by rw [Bool.eq_false_iff, ne_eq, leV_iff]; exact fun e => h (e i hi5)
    rw [this]; rfl
   have HN : Hid (cv v i ≤ cv v' i → ∀ s, s < i + 1 → cv v s ≤ cv v' s) := fun h s hs => by
    by_cases e : s = i
    ·subst e; exact h
    ·exact HA.out s (by omega)
   clear e7 e8
   generalize cv v i = x at *
   generalize cv v' i = y at *
   by_cases hxy : x ≤ y
   ·have hxyI : ¬ (y : Int) < (x : Int) := by omega
    go_wp2_with fail
    go_quiet (fail)
    go_wp2
    go_roundg (5 - (i + 1))
    case measure => omega
    case rel => exact ⟨i + 1, by omega, Nat.le_refl _, by go_num, ⟨q + nq, by rw [HW.out]; exact drewN_add ..⟩, HN.out hxy⟩
   ·have hxyI : (y : Int) < (x : Int) := by omega
    go_wp2_with fail
    go_quiet (fail)
    go_wp2
    go_ret2
    exact ⟨by rw [HI.out hxy]; rfl, GW.out.drewN _⟩
  ·obtain rfl : i = 5 := by omega
   have k0 : wr.heap[g0]? = some (.cells #[U, .slice ma N2 mc] 75 (0, 0)) := by rw [HW.out]; exact d0.out
   have k1 : wr.heap[g0 + 1]? = some (.cells #[U', .slice ma' N2' mc'] 75 (0, 0)) := by rw [HW.out]; exact d1.out
   have HF : Hid (withB v v' m m' = decide ((comL m v' m').length = m.length)) := by
    show _ = _
    unfold withB
    rw [(leV_iff v v').2 HA.out]; rfl
   clear e7 e8
   go_wp2_with fail
   refine wi11_reg _ (fun _ _ _ _ _ h => h) _ wr g0 (g0 + 1) U U' ma ma' N2 mc N2' mc' rfl rfl rfl ⟨k0, k1⟩ (Array.getElem?_eq_some_iff.1 k0).1 (Array.getElem?_eq_some_iff.1 k1).1 (fun p1 p2 p3 W => p2 = (comL m v' m').length)
    (fun W g => (HQ.out _ W (R2.out.gr (GW.out.trans g)) (GW.out.trans g)).mono fun e W' ⟨p1, p2, p3, h1, h2, h3⟩ => ⟨p1, p2, p3, h1, h2, h3.1⟩) (fun W p1 p2 p3 g f => ?_)
   simp only [Act.put, List.setIfInBounds_toArray, List.set_cons_zero, List.set_cons_succ]
   subst f
   have HE : Hid (decide ((((comL m v' m').length : Nat) : Int) = (N2 : Int)) = withB v v' m m') := by
    show _ = _
    rw [HF.out, HN2.out, Bool.eq_iff_iff]
    simp only [decide_eq_true_eq]
    omega
   have GF := Lib.hid (GW.out.trans g)
   generalize decide ((((comL m v' m').length : Nat) : Int) = (N2 : Int)) = bb at *
   go_wp2_with fail
   go_ret2
   exact ⟨by rw [← HE.out]; rfl, GF.out⟩
def chkA (V : List Int) (M : List (Int × Int)) (d : Int × Int) : Int := if chkK V M ≠ 0 then chkK V M else if dotB d then 0 else 1
theorem hasf_any (k : Value) (V : List Int) (M : List (Int × Int)) (d : Int × Int) (w : World) (hk : KnR w k V M) (hE : chkA V M d ≠ 0) :
  Calls Tryz.prog 167 #[k, .agg #[.int .i64 d.1, .int .i64 d.2]] w fun e w' => e = .returned (.tuple #[.bool false, .int .i64 (chkA V M d)]) ∧ Gr w w' := by
 have H1 : Hid (∀ W, Gr w W → Calls Tryz.prog 131 #[k] W fun e w' => e = .returned (.int .i64 (chkK V M)) ∧ Gr W w') := fun W g => kcheck_any k V M W (hk.gr g)
 have H2 := Lib.hid (dot_any d)
 have HA : Hid (chkA V M d = if chkK V M ≠ 0 then chkK V M else if dotB d then 0 else 1) := rfl
 obtain ⟨vv, mv, rfl, -⟩ := hk
 obtain ⟨x, y⟩ := d
 simp only at H2
 have G2 := Lib.hid (((Gr.refl w).alloc (.cells #[vv, mv] 75)).alloc (.cells #[.int .i64 x, .int .i64 y] 51))
 have T2 := Lib.hid (Two.new (w.alloc (.cells #[vv, mv] 75)) x y 51)
 rw [World.size_alloc] at T2
 by_cases h0 : chkK V M = 0
 ·have hd : dotB (x, y) = false := by
   cases hq : dotB (x, y)
   ·rfl
   ·exfalso; apply hE; rw [HA.out, h0, hq]; simp
  have HR : Hid (chkA V M (x, y) = 1) := by show _ = _; rw [HA.out, h0, hd]; simp
  rw [h0] at H1
  rw [hd] at H2
  clear hE
  go_enter Tryz.func167, Tryz.ntmps167
  go_wp2_with (first
   | (go_at_call 131; refine (H1.out _ G2.out).mono ?_; rintro e w4 ⟨rfl, g4⟩; obtain ⟨t0, t1, t2⟩ := T2.out.gr g4; have G4 := Lib.hid (G2.out.trans g4); clear g4 T2)
   | (go_at_call 117; refine (H2.out _).mono ?_; rintro e w5 ⟨rfl, g5⟩))
  go_ret2
  exact ⟨by rw [HR.out]; rfl, G4.out.trans g5⟩
 ·have HR : Hid (chkA V M (x, y) = chkK V M) := by show _ = _; rw [HA.out, if_pos h0]
  generalize chkK V M = E at *
  clear hE
  go_enter Tryz.func167, Tryz.ntmps167
  go_wp2_with (first
   | (go_at_call 131; refine (H1.out _ G2.out).mono ?_; rintro e w4 ⟨rfl, g4⟩))
  go_ret2
  exact ⟨by rw [HR.out]; rfl, G2.out.trans g4⟩
theorem hasf_ok (k : Value) (v : List Nat) (m : List (Nat × Nat)) (s c : Nat) (w : World) (hk : KnR w k (ints v) (pairs m)) (ho : OkV v m) (hl : m.length ≤ 60) (hd : inR s c) :
  Calls Tryz.prog 167 #[k, .agg #[.int .i64 (s : Int), .int .i64 (c : Int)]] w fun e w' => e = .returned (.tuple #[.bool (memB v m s c), .int .i64 0]) ∧ Gr w w' := by
 have H1 : Hid (∀ W, Gr w W → Calls Tryz.prog 131 #[k] W fun e w' => e = .returned (.int .i64 0) ∧ Gr W w') := fun W g => by
  have := kcheck_any k _ _ W (hk.gr g)
  rwa [ho.chk hl] at this
 have H2 : Hid (∀ W, Calls Tryz.prog 117 #[.agg #[.int .i64 (s : Int), .int .i64 (c : Int)]] W fun e w' => e = .returned (.bool true) ∧ Gr W w') := fun W => by
  have := dot_any ((s : Int), (c : Int)) W
  have e : dotB ((s : Int), (c : Int)) = true := by rw [dotB_iff]; have := hd.1; have := hd.2.1; have := hd.2.2; simp only; omega
  rwa [e] at this
 have H3 : Hid (∀ W, Gr w W → Calls Tryz.prog 204 #[k, .agg #[.int .i64 (s : Int), .int .i64 (c : Int)]] W fun e w' => e = .returned (.bool (memB v m s c)) ∧ Gr W w') := fun W g => khas_any k v m s c W (hk.gr g) ho hl hd
 obtain ⟨vv, mv, rfl, -⟩ := hk
 have G2 := Lib.hid (((Gr.refl w).alloc (.cells #[vv, mv] 75)).alloc (.cells #[.int .i64 (s : Int), .int .i64 (c : Int)] 51))
 have B0 : Hid (((w.alloc (.cells #[vv, mv] 75)).alloc (.cells #[.int .i64 (s : Int), .int .i64 (c : Int)] 51)).heap[w.heap.size]? = some (.cells #[vv, mv] 75 (0, 0))) := (al_old _ _ _ (by simp)).trans (al_new _ _ _ rfl)
 have B1 : Hid (((w.alloc (.cells #[vv, mv] 75)).alloc (.cells #[.int .i64 (s : Int), .int .i64 (c : Int)] 51)).heap[w.heap.size + 1]? = some (.cells #[.int .i64 (s : Int), .int .i64 (c : Int)] 51 (0, 0))) := al_new _ _ _ (by simp)
 generalize memB v m s c = R at *
 go_enter Tryz.func167, Tryz.ntmps167
 go_wp2_with (first
  | (go_at_call 131; refine (H1.out _ G2.out).mono ?_; rintro e w4 ⟨rfl, g4⟩; have b0 := Lib.hid ((Below.block g4 _ (Array.getElem?_eq_some_iff.1 B0.out).1).trans B0.out); have b1 := Lib.hid ((Below.block g4 _ (Array.getElem?_eq_some_iff.1 B1.out).1).trans B1.out); have c0 := kc0 b1.out; have c1 := kc1 b1.out; have G4 := Lib.hid (G2.out.trans g4); clear g4 B0 B1)
  | (go_at_call 117; refine (H2.out _).mono ?_; rintro e w5 ⟨rfl, g5⟩; have e0 := (Below.block g5 _ (Array.getElem?_eq_some_iff.1 b0.out).1).trans b0.out; have e1 := (Below.block g5 _ (Array.getElem?_eq_some_iff.1 b1.out).1).trans b1.out; have k0 := kc0 e0; have k1 := kc1 e0; have k2 := kc0 e1; have k3 := kc1 e1; have G5 := Lib.hid (G4.out.trans g5); clear g5 e0 e1 c0 c1)
  | (go_at_call 204; refine (H3.out _ G5.out).mono ?_; rintro e w6 ⟨rfl, g6⟩))
 go_ret2
 exact ⟨rfl, G5.out.trans g6⟩
theorem sum_take (v : List Nat) (i x : Nat) (h : v[i]? = some x) : (v.take (i + 1)).sum = (v.take i).sum + x := by rw [take_snoc h, List.sum_append]; simp
theorem sum_bound (v : List Nat) (h : ∀ x ∈ v, x ≤ 1000) : v.sum ≤ v.length * 1000 := by
 induction v with
 | nil => simp
 | cons a v ih =>
  have h1 := h a (by simp)
  have h2 := ih (fun x hx => h x (by simp [hx]))
  simp only [List.sum_cons, List.length_cons]
  omega
theorem count_ok (k : Value) (v : List Nat) (m : List (Nat × Nat)) (w : World) (hk : KnR w k (ints v) (pairs m)) (ho : OkV v m) (hl : m.length ≤ 60) :
  Calls Tryz.prog 214 #[k] w fun e w' => e = .returned (.tuple #[.int .i64 ((v.sum + m.length : Nat) : Int), .int .i64 0]) ∧ Gr w w' := by
 have H1 : Hid (∀ W, Gr w W → Calls Tryz.prog 131 #[k] W fun e w' => e = .returned (.int .i64 0) ∧ Gr W w') := fun W g => by
  have := kcheck_any k _ _ W (hk.gr g)
  rwa [ho.chk hl] at this
 obtain ⟨vv, mv, rfl, r1, r2, -⟩ := hk
 obtain ⟨va, vc, rfl, hvc, hv⟩ := r1
 obtain ⟨ma, mc, rfl, -⟩ := r2
 have HV := Lib.hid hv
 have hle := ho.le
 have hlen := ho.len
 have HLE := Lib.hid hle
 have hn1 := ints_len v
 have hn2 := pairs_len m
 clear hv hle
 rw [hn1] at hvc
 generalize hN1 : (ints v).length = N1 at *
 generalize hN2 : (pairs m).length = N2 at *
 subst hn1
 subst hn2
 have G2 := Lib.hid ((Gr.refl w).alloc (.cells #[.slice va v.length vc, .slice ma m.length mc] 75))
 have B0 : Hid ((w.alloc (.cells #[.slice va v.length vc, .slice ma m.length mc] 75)).heap[w.heap.size]? = some (.cells #[.slice va v.length vc, .slice ma m.length mc] 75 (0, 0))) := al_new _ _ _ rfl
 have hmI : (m.length : Int) ≤ 60 := by omega
 have hvI : (v.length : Int) ≤ 5 := by omega
 go_enter Tryz.func214, Tryz.ntmps214
 go_wp2_with (go_at_call 131; refine (H1.out _ G2.out).mono ?_; rintro e w4 ⟨rfl, g4⟩; have b0 := (Below.block g4 _ (Array.getElem?_eq_some_iff.1 B0.out).1).trans B0.out; have c0 := kc0 b0; have c1 := kc1 b0; have G4 := Lib.hid (G2.out.trans g4); clear g4 B0 b0 H1 G2)
 go_loopg [5, 19] v.length (fun gh s5 ix wr => ∃ i : Nat, i ≤ v.length ∧ v.length - i ≤ gh ∧ ix = .int .i64 (i : Int) ∧ s5 = .int .i64 (((v.take i).sum + m.length : Nat) : Int) ∧ wr = w4)
 case atStart => exact ⟨0, by omega, by omega, rfl, by simp, rfl⟩
 case round =>
  obtain ⟨i, hi, hgh, rfl, rfl, rfl⟩ := hrel
  by_cases hil : i < v.length
  ·obtain ⟨x, hx⟩ : ∃ x, v[i]? = some x := ⟨_, List.getElem?_eq_getElem hil⟩
   obtain ⟨b, off, hab, hb, hcell⟩ := HV.out (by intro e; simp [ints] at e; rw [e] at hil; simp at hil)
   subst hab
   have q1 := (G4.out.cells.1 b (off + i) hb).trans (hcell i _ (ints_at hx))
   have hiI : (i : Int) < (v.length : Int) := by omega
   have HS := Lib.hid (sum_take v i x hx)
   have h1 : (v.take i).sum ≤ 5000 := by
    have := sum_bound (v.take i) (fun y hy => HLE.out y (List.mem_of_mem_take hy))
    have : (v.take i).length ≤ 5 := by simp; omega
    omega
   have h2 : x ≤ 1000 := HLE.out x (List.mem_of_getElem? hx)
   clear hcell hx
   generalize (v.take i).sum = S at *
   have hSI : (S : Int) ≤ 5000 := by omega
   have hxI : (x : Int) ≤ 1000 := by omega
   go_wp2
   go_roundg (v.length - (i + 1))
   case measure => omega
   case rel => exact ⟨i + 1, by omega, Nat.le_refl _, by go_num, by rw [HS.out]; congr 1; omega, rfl⟩
  ·obtain rfl : i = v.length := by omega
   rw [List.take_length]
   go_wp2
   go_ret2
   exact ⟨rfl, G4.out⟩
theorem add_ok (k : Value) (v : List Nat) (m : List (Nat × Nat)) (s c : Nat) (w : World) (hk : KnR w k (ints v) (pairs m)) (ho : OkV v m) (hl : m.length ≤ 60) (hd : inR s c) :
  Calls Tryz.prog 186 #[k, .agg #[.int .i64 (s : Int), .int .i64 (c : Int)]] w fun e w' => frmK w.heap.size w' e (addD (memB v m) s c) ∧ Gr w w' := by
 have H1 : Hid (∀ W, Gr w W → Calls Tryz.prog 131 #[k] W fun e w' => e = .returned (.int .i64 0) ∧ Gr W w') := fun W g => by
  have := kcheck_any k _ _ W (hk.gr g)
  rwa [ho.chk hl] at this
 have H2 : Hid (∀ W, Calls Tryz.prog 117 #[.agg #[.int .i64 (s : Int), .int .i64 (c : Int)]] W fun e w' => e = .returned (.bool true) ∧ Gr W w') := fun W => by
  have := dot_any ((s : Int), (c : Int)) W
  have e : dotB ((s : Int), (c : Int)) = true := by rw [dotB_iff]; have := hd.1; have := hd.2.1; have := hd.2.2; simp only; omega
  rwa [e] at this
 have HC : Hid (∀ W, Gr w W → Calls Tryz.prog 172 #[k] W fun e w' => e = .returned (.agg (cArr v)) ∧ Gr W w') := fun W g => countsOf_any k v _ W (hk.gr g) ho.len
 obtain ⟨vv, mv, rfl, r1, r2, r3⟩ := hk
 obtain ⟨va, vc, rfl, -⟩ := id r1
 obtain ⟨ma, mc, rfl, -⟩ := id r2
 have R3 := Lib.hid r3
 have hpl := pairs_len m
 have HLv := Lib.hid (fun s (_ : s < 5) => cv_le ho.le s)
 have HIN := Lib.hid ho.ins
 generalize hN1 : (ints v).length = N1 at *
 generalize hN2 : (pairs m).length = N2 at *
 have HN2 := Lib.hid hpl
 clear r1 r2 r3 ho hN1 hN2 hpl
 generalize hU : (Value.slice va N1 vc) = U at *
 clear hU
 have G2 := Lib.hid ((((Gr.refl w).alloc (.cells #[U, .slice ma N2 mc] 75)).alloc (.cells #[.int .i64 (s : Int), .int .i64 (c : Int)] 51)).alloc (.cells #[.slice none 0 0, .slice none 0 0] 75))
 have B0 : Hid ((((w.alloc (.cells #[U, .slice ma N2 mc] 75)).alloc (.cells #[.int .i64 (s : Int), .int .i64 (c : Int)] 51)).alloc (.cells #[.slice none 0 0, .slice none 0 0] 75)).heap[w.heap.size]? = some (.cells #[U, .slice ma N2 mc] 75 (0, 0))) := (al_old _ _ _ (by simp; omega)).trans ((al_old _ _ _ (by simp)).trans (al_new _ _ _ rfl))
 have B1 : Hid ((((w.alloc (.cells #[U, .slice ma N2 mc] 75)).alloc (.cells #[.int .i64 (s : Int), .int .i64 (c : Int)] 51)).alloc (.cells #[.slice none 0 0, .slice none 0 0] 75)).heap[w.heap.size + 1]? = some (.cells #[.int .i64 (s : Int), .int .i64 (c : Int)] 51 (0, 0))) := (al_old _ _ _ (by simp)).trans (al_new _ _ _ (by simp))
 have B4 : Hid ((((w.alloc (.cells #[U, .slice ma N2 mc] 75)).alloc (.cells #[.int .i64 (s : Int), .int .i64 (c : Int)] 51)).alloc (.cells #[.slice none 0 0, .slice none 0 0] 75)).heap[w.heap.size + 1 + 1]? = some (.cells #[.slice none 0 0, .slice none 0 0] 75 (0, 0))) := al_new _ _ _ (by simp)
 go_enter Tryz.func186, Tryz.ntmps186
 go_wp2_with (first
  | (go_at_call 131; refine (H1.out _ G2.out).mono ?_; rintro e w4 ⟨rfl, g4⟩; have b0 := Lib.hid ((Below.block g4 _ (Array.getElem?_eq_some_iff.1 B0.out).1).trans B0.out); have b1 := Lib.hid ((Below.block g4 _ (Array.getElem?_eq_some_iff.1 B1.out).1).trans B1.out); have b4 := Lib.hid ((Below.block g4 _ (Array.getElem?_eq_some_iff.1 B4.out).1).trans B4.out); have c0 := kc0 b1.out; have c1 := kc1 b1.out; have G4 := Lib.hid (G2.out.trans g4); clear g4 B0 B1 B4)
  | (go_at_call 117; refine (H2.out _).mono ?_; rintro e w5 ⟨rfl, g5⟩; have e0 := (Below.block g5 _ (Array.getElem?_eq_some_iff.1 b0.out).1).trans b0.out; have e1 := (Below.block g5 _ (Array.getElem?_eq_some_iff.1 b1.out).1).trans b1.out; have e4 := (Below.block g5 _ (Array.getElem?_eq_some_iff.1 b4.out).1).trans b4.out; have G5 := Lib.hid (G4.out.trans g5); clear g5 c0 c1 b0 b1 b4))
 generalize hg0 : w.heap.size = g0 at *
 have m0 := (Array.getElem?_eq_some_iff.1 e0).1
 have m1 := (Array.getElem?_eq_some_iff.1 e1).1
 have m4 := (Array.getElem?_eq_some_iff.1 e4).1
 have hR3 : Hid (∀ W, Gr w5 W → RdC 2 W (.slice ma N2 mc) m.length (flat (pairs m))) := fun W g => by
  have := (R3.out.gr (G5.out.trans g))
  rw [HN2.out] at this ⊢
  exact this
 refine ad6_reg _ (fun _ _ _ _ _ h => h) _ w5 g0 (g0 + 1) (g0 + 1 + 1) U ma N2 mc s c (cArr v) rfl rfl rfl rfl ⟨e0, e1⟩ m0 m1 e4 (by omega) (by omega)
  (fun u W W' => W'.ownsRow W.heap.size 51 2 u (m ++ [(s, c)]).length (flat (pairs (m ++ [(s, c)])))) (fun a1 n1 c1 a2 n2 c2 r W'' => frmK w5.heap.size W'' (.returned (.tuple #[.agg #[.slice a1 n1 c1, .slice a2 n2 c2], .int .i64 r])) (addD (memB v m) s c))
  (fun W g => HC.out W (G5.out.trans g))
  (fun W b22 b23 g h22 h23 => concat_two (l' := [(s, c)]) h23 (hR3.out W g) (by
   refine ⟨rfl, flat_one _, .inr ⟨_, 1, rfl, Nat.le_refl _, fun _ => (Array.getElem?_eq_some_iff.1 h22).1, fun j u hj => ?_⟩⟩
   rw [adn, Nat.zero_add]
   match j, hj with
   | 0, hj => simp [pairs, flat] at hj; subst hj; exact kc0 h22
   | 1, hj => simp [pairs, flat] at hj; subst hj; exact kc1 h22
   | j + 2, hj => simp [pairs, flat] at hj) (by simp; omega))
  (fun W W' u g g' f => build_then (addD (memB v m) s c) add_eq HLv.out (fun d hd' => (List.mem_append.1 hd').elim (HIN.out d) (fun q => by rw [List.mem_singleton] at q; subst q; exact hd)) (by rw [List.length_append]; simp; omega) g g' f) (fun W b22 b23 u a1 n1 c1 a2 n2 c2 r g f => ?_)
 simp only [Act.put, List.setIfInBounds_toArray, List.set_cons_zero, List.set_cons_succ]
 have k4' := (Below.block g _ m4).trans e4
 have k5 := setRow_heap W (g0 + 1 + 1) _ #[.slice a1 n1 c1, .slice a2 n2 c2] _ _ k4'
 have GF : Hid (Gr w (W.setRow (g0 + 1 + 1) #[.slice a1 n1 c1, .slice a2 n2 c2])) := below_setRow (G5.out.trans g) (by omega) _
 have HF := Lib.hid ((f.setRow m4 #[.slice a1 n1 c1, .slice a2 n2 c2]).less (base' := w.heap.size) G5.out.le)
 generalize W.setRow (g0 + 1 + 1) #[.slice a1 n1 c1, .slice a2 n2 c2] = w9 at *
 go_wp2_with fail
 refine bodyPost_ret (res_know Tryz.results186 _ _ (g0 + 1 + 1) _ _ _ rfl rfl (kc0 k5) (kc1 k5)) rfl ⟨HF.out, GF.out⟩
end Go.Proofs.YtglbnggkkjhokaaGreat
/- The document's sets of dots: All, Size, Formed. -/
namespace Rm
open Go Go.RowKit Gx
theorem ne_nil_of_lt {α : Type} {l : List α} {i : Nat} (h : i < l.length) : l ≠ [] := fun e => by rw [e] at h; cases h
def RdI1 (w : World) (a : Option Addr) (V : List Int) : Prop := V ≠ [] → ∃ b off, a = some ⟨b, off, none⟩ ∧ b < w.heap.size ∧ ∀ i x, V[i]? = some x → w.cell? ⟨b, off + i * 1, none⟩ = some (.int .i64 x)
def RdDI (w : World) (a : Option Addr) (M : List (Int × Int)) : Prop := M ≠ [] → ∃ b off, a = some ⟨b, off, none⟩ ∧ b < w.heap.size ∧ ∀ i (p : Int × Int), M[i]? = some p → w.cell? ⟨b, off + i * 2, none⟩ = some (.int .i64 p.1) ∧ w.cell? ⟨b, off + i * 2 + 1, none⟩ = some (.int .i64 p.2)
theorem knr_form {w : World} {k : Value} {V : List Int} {M : List (Int × Int)} (h : KnR w k V M) : ∃ va vc ma mc, k = .agg #[.slice va V.length vc, .slice ma M.length mc] ∧ RdI1 w va V ∧ RdDI w ma M := by
 obtain ⟨vv, mv, rfl, ⟨va, vc, rfl, -, hv⟩, ⟨ma, mc, rfl, -, hm⟩, -⟩ := h
 refine ⟨va, vc, ma, mc, rfl, fun hn => ?_, hm⟩
 obtain ⟨b, off, e, hb, hx⟩ := hv hn
 exact ⟨b, off, e, hb, fun i x h => by rw [Nat.mul_one]; exact hx i x h⟩
end Rm
namespace Gx
open Go Go.RowKit Rm
section
variable {P : Program} {ev : Operand → Value} {d : Option Tmp} {ty : TypeId} {p : String} {af : Array Edge} {g : Option (Nat × Bool)} {w : World}
end
end Gx
namespace Go.Proofs.YtglbnggkkjhokaaGreat
open Go.RowKit Rm Gx
end Go.Proofs.YtglbnggkkjhokaaGreat
/- slices.IndexFunc, ContainsFunc, DeleteFunc at parts. -/
namespace Go.Proofs.YtglbnggkkjhokaaGreat
open Go.RowKit Rm Gx
theorem indexP (K : List PtX) (va : Option Addr) (vc : Nat) (f : FuncId) (caps : List Value) (p : PtX → Bool) (hf : FnOk Tryz.prog f) (hl : K.length ≤ 100000) (w : World) (hv : RdA encP 3 w va K) (hc : ∀ x ∈ K, ∀ w1, Gr w w1 → Calls Tryz.prog f (.agg #[.slice x.fa x.fn x.fc, .slice x.va x.vn x.vc, .slice x.ma x.mn x.mc] :: caps).toArray w1 fun e w2 => e = .returned (.bool (p x)) ∧ Gr w1 w2) :
  Calls Tryz.prog 166 #[.slice va K.length vc, .func (.func f) #[] caps.toArray] w fun e w' => e = .returned (.int .i64 (ixF p K 0)) ∧ Gr w w' := by
 refine enter (N := 19) Tryz.func166 rfl rfl rfl (fun L ok0 H => ?_)
 have M : L.eval (.tmp 0) = .slice va K.length vc := H 0 _ rfl
 have Z : L.eval (.tmp 1) = .func (.func f) #[] caps.toArray := H 1 _ rfl
 clear H
 have G0 := Gr.refl w
 refine wp_seq_k (fun K1 ab => (wp_region_lit (sw ok0 (o_as ev_const) (fun aI C => ?_))))
 refine wpList_nil (th_n (ab _ _ (wp_seq_k (fun K3 ac => (wp_seq_k (fun K4 ad => (wp_region_lit (sw C.ok (o_mv (C.n M)) (fun aM D => ?_)))))))))
 refine sw D.ok (o_len D.at_ Tryz.underlying32) (fun aO E => ?_)
 refine sw E.ok (o_mv ev_const) (fun aS z => ?_)
 refine wpList_nil (th_n (ad _ _ (wp_block ?_)))
 have e9 := z.n (E.n (D.n (C.n M)))
 have ag := z.n (E.n (D.n (C.n Z)))
 have ah := z.n (E.n (D.n C.at_))
 refine lp (fun (nL : Nat) (aL : Act) (wL : World) => ∃ i : Nat, nL = K.length - i ∧ Ok 19 aL ∧ Gr w wL ∧ (aL.eval (.tmp 0) = .slice va K.length vc) ∧ (aL.eval (.tmp 1) = .func (.func f) #[] caps.toArray) ∧ (aL.eval (.tmp 4) = .int .i64 0) ∧ (aL.eval (.tmp 7) = .int .i64 ((K.length : Nat) : Int)) ∧ (aL.eval (.tmp 8) = .int .i64 (i : Int)) ∧ (i ≤ K.length) ∧ (∀ k y, k < i → K[k]? = some y → p y = false)) _ ⟨0, rfl, z.ok, G0, e9, ag, ah, (z.n E.at_), z.at_, by omega, fun k y hk => by omega⟩ ?_
 rintro aT aU ai ⟨i, hmI8, okI8, GI8, aj, ak, al, O, I, hiI8, hbI8⟩ KI8 hKI8
 refine wp_seq_k (fun aV am => (wp_region_lit (sw okI8 (o_ltI I O) (fun aW a => ?_))))
 refine wpList_nil (th_n (am _ _ (wp_seq_k (fun aX an => ?_))))
 by_cases S : (i : Int) < ((K.length : Nat) : Int)
 ·refine wp_cond_true ((a.at_).trans (congrArg Value.bool (decide_eq_true S))) ?_
  refine wp_skip (th_n (an _ _ (wp_seq_k (fun aY ao => (wp_block (wp_seq_k (fun aZ ap => (wp_region_lit (sw a.ok (o_mv (a.n I)) (fun a1 u => ?_))))))))))
  refine sw u.ok (o_as u.at_) (fun a2 t => ?_)
  refine wpList_nil (th_n (ap _ _ (wp_seq_k (fun a3 aq => (wp_region_lit ?_)))))
  have T := t.n (u.n (a.n ak))
  refine sw t.ok (o_mv T) (fun a4 h => ?_)
  have U := h.n (t.n (u.n (a.n aj)))
  refine sw h.ok (o_mv U) (fun a6 b => ?_)
  refine sw b.ok (o_mv (b.n (h.n t.at_))) (fun a7 c => ?_)
  have J : i < List.length K := by omega
  obtain ⟨bh29, fh29, ar, au, av⟩ := hv (ne_nil_of_lt J)
  obtain ⟨xh29, F⟩ : ∃ x, (K)[i]? = some x := ⟨_, List.getElem?_eq_getElem J⟩
  refine sw c.ok (o_iaV (i := i) (s := 3) ar (c.n b.at_) c.at_ Tryz.underlying32 (by kernel_rfl) J) (fun a8 l => ?_)
  refine sw l.ok (o_ldA (k := fh29 + i * 3) l.at_ (cs := [.slice xh29.fa xh29.fn xh29.fc, .slice xh29.va xh29.vn xh29.vc, .slice xh29.ma xh29.mn xh29.mc]) (fun j v hv => (Below.cell GI8 au).trans (av _ _ F j v hv)) Tryz.underlying151 rfl (by kernel_rfl)) (fun a9 o => ?_)
  have ax := o.n (l.n (c.n (b.n h.at_)))
  refine sc o.ok rfl (wn _ rfl) rfl (o_fv1 (caps := caps) hf ax o.at_) (hc _ (List.mem_of_getElem? F) ai GI8) ?_
  rintro _ ba ⟨rfl, ay⟩
  refine ⟨_, rfl, fun bb g => ?_⟩
  have V := GI8.trans ay
  refine wpList_nil (th_n (aq _ _ ?_))
  cases G : (p xh29)
  ·refine wp_cond_false ((g.at_).trans (congrArg Value.bool (G))) ?_
   refine wp_skip (ib_n (th_n (ao _ _ (wp_region_lit ?_))))
   have az := g.n (o.n (l.n (c.n (b.n (h.n (t.n (u.n (a.n I))))))))
   refine sw g.ok (o_add (r := ((i + 1 : Nat) : Int)) az ev_const (by omega) (by omega)) (fun bc A => ?_)
   refine sw A.ok (o_mv A.at_) (fun bd B => ?_)
   refine wpList_nil ?_
   have aA := B.n (A.n (g.n (o.n (l.n (c.n (b.n U))))))
   have aB := B.n (A.n (g.n (o.n (l.n (c.n (b.n (h.n T)))))))
   have aC := B.n (A.n (g.n (o.n (l.n (c.n (b.n (h.n (t.n (u.n (a.n al))))))))))
   have aD := B.n (A.n (g.n (o.n (l.n (c.n (b.n (h.n (t.n (u.n (a.n O))))))))))
   exact th_n (hKI8 _ _ _ (by omega) ⟨i + 1, rfl, B.ok, V, aA, aB, aC, aD, B.at_, by omega, fun k y hk hy => by
     rcases Nat.lt_or_ge k i with q | q
     ·exact hbI8 k y q hy
     ·obtain rfl : k = i := by omega
      rw [F] at hy
      cases hy
      exact G⟩)
  ·refine wp_cond_true ((g.at_).trans (congrArg Value.bool (G))) ?_
   refine wp_seq_k (fun bf aE => (wp_region_lit ?_))
   have aF := g.n (o.n (l.n (c.n (b.n (h.n t.at_)))))
   refine sw g.ok (o_mv aF) (fun bg W => ?_)
   refine sw W.ok (o_as W.at_) (fun bh X => ?_)
   refine wpList_nil (th_n (aE _ _ (wp_ret (ib_r (th_r (th_r (ib_r (th_r (ret1 X.ok rfl (X.at_) ⟨congrArg (fun n => Ending.returned (Value.int .i64 n)) ((ixF_some K 0 i _ F G hbI8).trans (congrArg Int.ofNat (Nat.zero_add _))).symm, V⟩)))))))))
 ·refine wp_cond_false ((a.at_).trans (congrArg Value.bool (decide_eq_false S))) ?_
  refine wp_exit (th_x (th_x (ib_x (th_n (ac _ _ (wp_seq_k (fun bi aG => (wp_region_lit (sw a.ok (o_as ev_const) (fun bj Y => ?_))))))))))
  refine wpList_nil (th_n (aG _ _ (wp_ret ?_)))
  exact ret1 Y.ok rfl (Y.at_) ⟨congrArg (fun n => Ending.returned (Value.int .i64 n)) (ixF_none K 0 (fun x hx => by
    obtain ⟨k, hk⟩ := List.getElem?_of_mem hx
    have hlt := (List.getElem?_eq_some_iff.1 hk).1
    exact hbI8 k x (by omega) hk)).symm, GI8⟩
theorem containsP (K : List PtX) (va : Option Addr) (vc : Nat) (f : FuncId) (caps : List Value) (p : PtX → Bool) (hf : FnOk Tryz.prog f) (hl : K.length ≤ 100000) (w : World) (hv : RdA encP 3 w va K) (hc : ∀ x ∈ K, ∀ w1, Gr w w1 → Calls Tryz.prog f (.agg #[.slice x.fa x.fn x.fc, .slice x.va x.vn x.vc, .slice x.ma x.mn x.mc] :: caps).toArray w1 fun e w2 => e = .returned (.bool (p x)) ∧ Gr w1 w2) :
  Calls Tryz.prog 118 #[.slice va K.length vc, .func (.func f) #[] caps.toArray] w fun e w' => e = .returned (.bool (K.any p)) ∧ Gr w w' := by
 refine enter (N := 9) Tryz.func118 rfl rfl rfl (fun l ok0 a => ?_)
 have r : l.eval (.tmp 0) = .slice va K.length vc := a 0 _ rfl
 have t : l.eval (.tmp 1) = .func (.func f) #[] caps.toArray := a 1 _ rfl
 clear a
 have c := Gr.refl w
 refine wp_seq_k (fun C u => (wp_region_lit (sw ok0 (o_as ev_const) (fun D g => ?_))))
 refine wpList_nil (th_n (u _ _ (wp_seq_k (fun E y => (wp_region_lit (sw g.ok (o_mv (g.n r)) (fun F h => ?_)))))))
 refine sw h.ok (o_mv (h.n (g.n t))) (fun G j => ?_)
 refine sc j.ok rfl (wn _ rfl) rfl (o_f2 Tryz.func166 rfl rfl rfl (j.n h.at_) j.at_) (indexP K va vc f caps p hf hl w (hv.gr c) (fun x hx w1 z => hc x hx w1 (c.trans z))) ?_
 rintro _ H ⟨rfl, A⟩
 refine ⟨_, rfl, fun I n => ?_⟩
 have B := c.trans A
 refine sw n.ok (o_geI n.at_ ev_const) (fun J o => ?_)
 refine sw o.ok (o_as o.at_) (fun L q => ?_)
 refine wpList_nil (th_n (y _ _ (wp_ret (ret1 q.ok rfl (q.at_) ⟨congrArg (fun b => Ending.returned (Value.bool b)) (ixF_any p K 0), B⟩))))
theorem zero_parts (m : Nat) : ∀ u ∈ (Builtin.zeroCells (Value.agg #[.slice none 0 0, .slice none 0 0, .slice none 0 0]).cells m).toList, u.oneCell' = true := by
 intro u hu
 simp only [Builtin.zeroCells, Value.cells, Array.toList_map, List.mem_map] at hu
 obtain ⟨i, -, rfl⟩ := hu
 show ((#[.slice none 0 0, .slice none 0 0, .slice none 0 0] : Array Value)[i % 3]!).oneCell' = true
 have h : i % 3 = 0 ∨ i % 3 = 1 ∨ i % 3 = 2 := by omega
 rcases h with h | h | h <;> rw [h] <;> rfl
theorem indexP0 (f : FuncId) (caps : List Value) (p : PtX → Bool) (hf : FnOk Tryz.prog f) (w : World) : Calls Tryz.prog 166 #[.slice none 0 0, .func (.func f) #[] caps.toArray] w fun e w' => e = .returned (.int .i64 (-1)) ∧ Gr w w' :=
 indexP [] none 0 f caps p hf (by simp) w (fun h => absurd rfl h) (fun x hx => by cases hx)
theorem deleteP0 (f : FuncId) (caps : List Value) (p : PtX → Bool) (hf : FnOk Tryz.prog f) (w : World) :
  Calls Tryz.prog 178 #[.slice none 0 0, .func (.func f) #[] caps.toArray] w fun e w' => e = .returned (.slice none 0 0) ∧ Gr w w' := by
 refine enter (N := 42) Tryz.func178 rfl rfl rfl (fun q ok0 h => ?_)
 have r : q.eval (.tmp 0) = .slice none 0 0 := h 0 _ rfl
 have y : q.eval (.tmp 1) = .func (.func f) #[] caps.toArray := h 1 _ rfl
 clear h
 have z := Gr.refl w
 refine wp_seq_k (fun H A => (wp_region_lit (sw ok0 (o_as ev_const) (fun I a => ?_))))
 refine wpList_nil (th_n (A _ _ (wp_seq_k (fun J B => (wp_region_lit (sw a.ok (o_mv (a.n r)) (fun K c => ?_)))))))
 refine sw c.ok (o_mv (c.n (a.n y))) (fun L g => ?_)
 refine sc g.ok rfl (wn _ rfl) rfl (o_f2 Tryz.func166 rfl rfl rfl (g.n c.at_) g.at_) (indexP0 f caps p hf w) ?_
 rintro _ M ⟨rfl, C⟩
 refine ⟨_, rfl, fun O j => ?_⟩
 have D := z.trans C
 refine sw j.ok (o_as j.at_) (fun S l => ?_)
 refine wpList_nil (th_n (B _ _ (wp_seq_k (fun T U => (wp_seq_k (fun V E => (wp_region_lit (sw l.ok (o_mv l.at_) (fun W n => ?_)))))))))
 refine sw n.ok (o_eq (b := true) n.at_ ev_const (by decide)) (fun X o => ?_)
 refine wpList_nil (th_n (E _ _ (wp_cond_true (o.at_) ?_)))
 refine wp_seq_k (fun Y F => (wp_region_lit ?_))
 have G := o.n (n.n (l.n (j.n (g.n (c.n (a.n r))))))
 refine sw o.ok (o_mv G) (fun Z t => ?_)
 refine sw t.ok (o_as t.at_) (fun aa u => ?_)
 refine wpList_nil (th_n (F _ _ (wp_ret (th_r (ret1 u.ok rfl (u.at_) ⟨rfl, D⟩)))))
theorem deleteP1 (K : List PtX) (g vc base : Nat) (f : FuncId) (caps : List Value) (p : PtX → Bool) (hf : FnOk Tryz.prog f) (hl : K.length ≤ 100000) (hcap : K.length ≤ vc) (w0 w : World) (hG : Gr w0 w) (hB : w0.heap.size ≤ base) (hz : base ≤ w.heap.size) (ho : w.ownsRow base 151 3 (.slice (some ⟨g, 0, none⟩) K.length vc) K.length (flatE encP K)) (hc : ∀ x ∈ K, ∀ w1, w.grownBy w1 (some g) → Calls Tryz.prog f (.agg #[.slice x.fa x.fn x.fc, .slice x.va x.vn x.vc, .slice x.ma x.mn x.mc] :: caps).toArray w1 fun e w2 => e = .returned (.bool (p x)) ∧ Gr w1 w2) :
  Calls Tryz.prog 178 #[.slice (some ⟨g, 0, none⟩) K.length vc, .func (.func f) #[] caps.toArray] w fun e w' => ∃ n, e = .returned (.slice (some ⟨g, 0, none⟩) n vc) ∧ n = (K.filter (fun x => !p x)).length ∧ w'.ownsRow base 151 3 (.slice (some ⟨g, 0, none⟩) n vc) n (flatE encP (K.filter (fun x => !p x))) ∧ w.grownBy w' (some g) := by
 refine enter (N := 42) Tryz.func178 rfl rfl rfl (fun a0 ok0 h0 => ?_)
 have ay : a0.eval (.tmp 0) = .slice (some ⟨g, 0, none⟩) K.length vc := h0 0 _ rfl
 have aK : a0.eval (.tmp 1) = .func (.func f) #[] caps.toArray := h0 1 _ rfl
 clear h0
 refine wp_seq_k (fun K1 bc => (wp_region_lit (sw ok0 (o_as ev_const) (fun cg S => ?_))))
 refine wpList_nil (th_n (bc _ _ (wp_seq_k (fun K3 bd => (wp_region_lit (sw S.ok (o_mv (S.n ay)) (fun ci T => ?_)))))))
 refine sw T.ok (o_mv (T.n (S.n aK))) (fun cj U => ?_)
 refine sc U.ok rfl (wn _ rfl) rfl (o_f2 Tryz.func166 rfl rfl rfl (U.n T.at_) U.at_) (indexP K (some ⟨g, 0, none⟩) vc f caps p hf hl w (RdA.own encP_ok ho rfl) (fun x hx w1 g1 => hc x hx w1 (gb_gr (gb_self : w.grownBy w (some g)) g1))) ?_
 rintro _ w7 ⟨rfl, g8⟩
 refine ⟨_, rfl, fun cl X => ?_⟩
 have G9 := hG.trans g8
 have bh := Nat.le_trans hz g8.size
 have aM := ow_gr ho g8
 have aO := gb_gr (gb_self : w.grownBy w (some g)) g8
 refine sw X.ok (o_as X.at_) (fun cm V => ?_)
 refine wpList_nil (th_n (bd _ _ (wp_seq_k (fun cn bi => (wp_seq_k (fun co bj => (wp_region_lit (sw V.ok (o_mv V.at_) (fun cp W => ?_)))))))))
 refine sw W.ok (o_eqI W.at_ ev_const) (fun cq G => ?_)
 refine wpList_nil (th_n (bj _ _ ?_))
 by_cases al : (ixF p K 0) = (-1)
 ·refine wp_cond_true ((G.at_).trans (congrArg Value.bool (decide_eq_true al))) ?_
  refine wp_seq_k (fun cr bl => (wp_region_lit ?_))
  have bm := G.n (W.n (V.n (X.n (U.n (T.n (S.n ay))))))
  refine sw G.ok (o_mv bm) (fun ct aS => ?_)
  refine sw aS.ok (o_as aS.at_) (fun cu aT => ?_)
  refine wpList_nil (th_n (bl _ _ (wp_ret (th_r (ret1 aT.ok rfl (aT.at_) ⟨List.length K, rfl, by rw [ixF_neg al], by rw [ixF_neg al]; exact aM, aO⟩)))))
 ·refine wp_cond_false ((G.at_).trans (congrArg Value.bool (decide_eq_false al))) ?_
  obtain ⟨j0, x0, hj1, hj2, hj3, hj4⟩ := (ixF_ge p K 0).resolve_left al
  have hj0 : ixF p K 0 = (j0 : Int) := by rw [hj1]; omega
  have hjl := (List.getElem?_eq_some_iff.1 hj2).1
  have aU := ((G.n (W.n V.at_))).trans (congrArg (Value.int .i64) hj0)
  refine wp_skip (th_n (bi _ _ (wp_seq_k (fun cy bn => (wp_seq_k (fun cz bo => (wp_region_lit (sw G.ok (o_mv aU) (fun cA Y => ?_)))))))))
  refine sw Y.ok (o_add (r := ((j0 + 1 : Nat) : Int)) Y.at_ ev_const (by omega) (by omega)) (fun cB Z => ?_)
  refine sw Z.ok (o_as Z.at_) (fun cC aa => ?_)
  refine wpList_nil (th_n (bo _ _ (wp_block ?_)))
  have bp := aa.n (Z.n (Y.n (G.n (W.n (V.n (X.n (U.n (T.n (S.n ay)))))))))
  have bq := aa.n (Z.n (Y.n (G.n (W.n (V.n (X.n (U.n (T.n (S.n aK)))))))))
  have br := aa.n (Z.n (Y.n (G.n (W.n (V.n (X.n (U.n (T.n S.at_))))))))
  have bt := aa.n (Z.n (Y.n aU))
  refine lp (fun (nL : Nat) (aL : Act) (wL : World) => ∃ i : Nat, ∃ j : Nat, ∃ M : List PtX, nL = K.length - j ∧ Ok 42 aL ∧ Gr w0 wL ∧ (aL.eval (.tmp 0) = .slice (some ⟨g, 0, none⟩) K.length vc) ∧ (aL.eval (.tmp 1) = .func (.func f) #[] caps.toArray) ∧ (aL.eval (.tmp 4) = .slice none 0 0) ∧ (aL.eval (.tmp 5) = .int .i64 (i : Int)) ∧ (aL.eval (.tmp 6) = .int .i64 (j : Int)) ∧ (w.grownBy wL (some g)) ∧ (World.ownsRow wL base 151 3 (.slice (some ⟨g, 0, none⟩) K.length vc) (K.length) ((flatE encP M))) ∧ (base ≤ wL.heap.size) ∧ (DelAt p K M i j)) _ ⟨j0, j0 + 1, K, rfl, aa.ok, G9, bp, bq, br, bt, aa.at_, aO, aM, bh, DelAt.start hj2 hj3 (fun k y hk hy => hj4 k y hk hy)⟩ ?_
  rintro cD cE cF ⟨i, j, M, hmI29, okI29, GI29, az, bu, aV, aA, aW, fgbI29, okrI29, zbaseI29, hdI29⟩ KI29 hKI29
  have hMlI29 := hdI29.len
  have hijI29 := hdI29.lt
  have hjKI29 := hdI29.jle
  refine wp_seq_k (fun cG bv => (wp_seq_k (fun cH bx => (wp_region_lit (sw okI29 (o_mv aW) (fun cI t => ?_))))))
  refine sw t.ok (o_mv (t.n az)) (fun cJ A => ?_)
  refine sw A.ok (o_len A.at_ Tryz.underlying32) (fun cK B => ?_)
  refine sw B.ok (o_ltI (B.n (A.n t.at_)) B.at_) (fun cL o => ?_)
  refine wpList_nil (th_n (bx _ _ ?_))
  by_cases aX : (j : Int) < ((K.length : Nat) : Int)
  ·refine wp_cond_true ((o.at_).trans (congrArg Value.bool (decide_eq_true aX))) ?_
   refine wp_skip (th_n (bv _ _ (wp_seq_k (fun cM aY => (wp_block (wp_seq_k (fun cO bz => (wp_region_lit ?_))))))))
   have aB := o.n (B.n (A.n (t.n az)))
   refine sw o.ok (o_mv aB) (fun cS F => ?_)
   have aC := F.n (o.n (B.n (A.n (t.n aW))))
   refine sw F.ok (o_mv aC) (fun cT C => ?_)
   refine sw C.ok (o_ia (i := j) (s := 3) (C.n F.at_) C.at_ Tryz.underlying32 (by kernel_rfl) (by omega)) (fun cU D => ?_)
   have bA : j < List.length M := by omega
   obtain ⟨xh51, ap⟩ : ∃ x, M[j]? = some x := ⟨_, List.getElem?_eq_getElem bA⟩
   refine sw D.ok (o_ldA (k := 0 + j * 3) D.at_ (cs := [.slice xh51.fa xh51.fn xh51.fc, .slice xh51.va xh51.vn xh51.vc, .slice xh51.ma xh51.mn xh51.mc]) (ow_at encP_ok okrI29 hdI29.len.symm ap) Tryz.underlying151 rfl (by kernel_rfl)) (fun cV E => ?_)
   refine sal (cs := #[.slice none 0 0, .slice none 0 0, .slice none 0 0]) E.ok rfl (wn _ rfl) rfl (o_al (z := .agg #[.slice none 0 0, .slice none 0 0, .slice none 0 0]) (by kernel_rfl)) (fun cW cX aD H b => ?_)
   have bB : w0.heap.size ≤ aD := by rw [H.eq]; exact GI29.size
   have bC : ∀ k, Value.ownBlock (.slice (some ⟨g, 0, none⟩) K.length vc) = some k → k < aD := fun k e => by rw [H.eq]; exact ow_in okrI29 k e
   have bD : w.heap.size ≤ aD := by rw [H.eq]; exact fgbI29.size
   have bE := GI29.trans H.gr
   have bF := Nat.le_trans zbaseI29 H.gr.size
   have bG := ow_gr okrI29 H.gr
   have bH := gb_gr fgbI29 H.gr
   refine ssR rfl (wn _ rfl) (o_stR b.at_ (b.n E.at_) H.bk (by kernel_rfl) rfl (by simp [Value.oneCell'])) H.bk (fun aE aq aZ => ?_)
   have bI : Gr w0 aE := Below.upd bE bB aq
   have bJ : base ≤ aE.heap.size := by rw [aq.size]; exact bF
   have bK := ow_upd_ne bG aq bC
   have a1 := gb_upd bH aq bD
   refine wpList_nil (th_n (bz _ _ (wp_seq_k (fun cY bL => (wp_region_lit ?_)))))
   have aF := b.n (E.n (D.n (C.n (F.n (o.n (B.n (A.n (t.n bu))))))))
   refine sw b.ok (o_mv aF) (fun cZ c => ?_)
   refine sw c.ok (o_ldR (c.n b.at_) aZ Tryz.underlying151 rfl (by kernel_rfl)) (fun c0 l => ?_)
   refine sc l.ok rfl (wn _ rfl) rfl (o_fv1 (caps := caps) hf (l.n c.at_) l.at_) (hc _ (List.mem_of_getElem? ((hdI29.rest j (Nat.le_refl _)).symm.trans ap)) aE a1) ?_
   rintro _ c1 ⟨rfl, am⟩
   refine ⟨_, rfl, fun c2 q => ?_⟩
   have a2 := bI.trans am
   have bM := aZ.gr am
   have a3 := Nat.le_trans bJ am.size
   have aG := ow_gr bK am
   have a4 := gb_gr a1 am
   refine sw q.ok (o_notI q.at_) (fun c3 a => ?_)
   refine wpList_nil (th_n (bL _ _ ?_))
   cases ar : (!(p xh51))
   ·refine wp_cond_false ((a.at_).trans (congrArg Value.bool (ar))) ?_
    refine wp_skip (ib_n (th_n (aY _ _ (wp_region_lit ?_))))
    have bO := a.n (q.n (l.n (c.n (b.n (E.n (D.n (C.n aC)))))))
    refine sw a.ok (o_mv bO) (fun c4 ab => ?_)
    refine sw ab.ok (o_add (r := ((j + 1 : Nat) : Int)) ab.at_ ev_const (by omega) (by omega)) (fun c5 ac => ?_)
    refine sw ac.ok (o_as ac.at_) (fun c6 ad => ?_)
    refine wpList_nil ?_
    have bS := ad.n (ac.n (ab.n (a.n (q.n (l.n (c.n (b.n (E.n (D.n (C.n (F.n aB)))))))))))
    have bT := ad.n (ac.n (ab.n (a.n (q.n (l.n (c.n aF))))))
    have bU := ad.n (ac.n (ab.n (a.n (q.n (l.n (c.n (b.n (E.n (D.n (C.n (F.n (o.n (B.n (A.n (t.n aV)))))))))))))))
    have bV := ad.n (ac.n (ab.n (a.n (q.n (l.n (c.n (b.n (E.n (D.n (C.n (F.n (o.n (B.n (A.n (t.n aA)))))))))))))))
    exact th_n (hKI29 _ _ _ (by omega) ⟨i, j + 1, M, rfl, ad.ok, a2, bS, bT, bU, bV, ad.at_, a4, aG, a3, DelAt.skip hdI29 ((hdI29.rest j (Nat.le_refl _)).symm.trans ap) (by simpa using ar)⟩)
   ·refine wp_cond_true ((a.at_).trans (congrArg Value.bool (ar))) ?_
    refine wp_seq_k (fun c7 bW => (wp_region_lit ?_))
    have a6 := a.n (q.n (l.n (c.n (b.n (E.n (D.n (C.n (F.n aB))))))))
    refine sw a.ok (o_mv a6) (fun c8 L => ?_)
    have a7 := L.n (a.n (q.n (l.n (c.n (b.n (E.n (D.n (C.n (F.n (o.n (B.n (A.n (t.n aA)))))))))))))
    refine sw L.ok (o_mv a7) (fun c9 I => ?_)
    have bX := I.n (L.n (a.n (q.n (l.n (c.n b.at_)))))
    refine sw I.ok (o_ldR bX bM Tryz.underlying151 rfl (by kernel_rfl)) (fun da J => ?_)
    refine sw J.ok (o_ia (i := i) (s := 3) (J.n (I.n L.at_)) (J.n I.at_) Tryz.underlying32 (by kernel_rfl) (by omega)) (fun db O => ?_)
    refine s_putE (u := xh51) (i := i) encP_ok (wn _ rfl) O.at_ (O.n J.at_) (by kernel_rfl) aG hdI29.len.symm (by omega) (fun dc bY gg101 => ?_)
    have bZ := Gr.grown a2 gg101 (fun k e => Nat.le_trans hB (ow_lt aG k e))
    have b0 := Nat.le_trans a3 gg101.size
    have b1 := gb_gb a4 gg101
    refine wpList_nil (th_n (bW _ _ (wp_region_lit ?_)))
    have b2 := O.n (J.n (I.n a7))
    refine sw O.ok (o_mv b2) (fun dd af => ?_)
    refine sw af.ok (o_add (r := ((i + 1 : Nat) : Int)) af.at_ ev_const (by omega) (by omega)) (fun df ag => ?_)
    refine sw ag.ok (o_as ag.at_) (fun dg ah => ?_)
    refine wpList_nil (ib_n (th_n (aY _ _ (wp_region_lit ?_))))
    have b3 := ah.n (ag.n (af.n (O.n (J.n (I.n (L.n (a.n (q.n (l.n (c.n (b.n (E.n (D.n (C.n aC))))))))))))))
    refine sw ah.ok (o_mv b3) (fun dh ai => ?_)
    refine sw ai.ok (o_add (r := ((j + 1 : Nat) : Int)) ai.at_ ev_const (by omega) (by omega)) (fun di aj => ?_)
    refine sw aj.ok (o_as aj.at_) (fun dj ak => ?_)
    refine wpList_nil ?_
    have b4 := ak.n (aj.n (ai.n (ah.n (ag.n (af.n (O.n (J.n (I.n (L.n a6)))))))))
    have b5 := ak.n (aj.n (ai.n (ah.n (ag.n (af.n (O.n (J.n (I.n (L.n (a.n (q.n (l.n (c.n aF)))))))))))))
    have b6 := ak.n (aj.n (ai.n (ah.n (ag.n (af.n (O.n (J.n (I.n (L.n (a.n (q.n (l.n (c.n (b.n (E.n (D.n (C.n (F.n (o.n (B.n (A.n (t.n aV))))))))))))))))))))))
    have b7 := ak.n (aj.n (ai.n ah.at_))
    exact th_n (hKI29 _ _ _ (by omega) ⟨i + 1, j + 1, M.set i xh51, rfl, ak.ok, bZ, b4, b5, b6, b7, ak.at_, b1, bY, b0, DelAt.keep hdI29 ((hdI29.rest j (Nat.le_refl _)).symm.trans ap) (by simpa using ar)⟩)
  ·refine wp_cond_false ((o.at_).trans (congrArg Value.bool (decide_eq_false aX))) ?_
   obtain rfl : j = List.length K := by omega
   refine wp_exit (th_x (th_x (ib_x (th_n (bn _ _ (wp_seq_k (fun dk b8 => (wp_region_lit ?_))))))))
   have a8 := o.n (B.n (A.n (t.n az)))
   refine sw o.ok (o_mv a8) (fun dl au => ?_)
   have a9 := au.n (o.n (B.n (A.n (t.n aA))))
   refine sw au.ok (o_mv a9) (fun dm an => ?_)
   refine sw an.ok (o_cutLt (k := i) (s := 3) (an.n au.at_) an.at_ Tryz.underlying32 (by kernel_rfl) (by omega) (by omega)) (fun dn av => ?_)
   refine s_clear (k := i) (z := .agg #[.slice none 0 0, .slice none 0 0, .slice none 0 0]) encP_ok (wn _ rfl) av.at_ Tryz.underlying32 (by kernel_rfl) rfl (zero_parts) okrI29 hdI29.len.symm (by omega) (fun dp b9 gg126 => ?_)
   have ca := gb_gb fgbI29 gg126
   refine wpList_nil (th_n (b8 _ _ (wp_seq_k (fun dq cb => (wp_region_lit ?_)))))
   have cc := av.n (an.n (au.n a8))
   refine sw av.ok (o_mv cc) (fun dr aH => ?_)
   have cd := aH.n (av.n (an.n a9))
   refine sw aH.ok (o_mv cd) (fun ds aI => ?_)
   refine sw aI.ok (o_cut (k := i) (s := 3) (aI.n aH.at_) aI.at_ Tryz.underlying32 (by kernel_rfl) (by omega)) (fun dt ba => ?_)
   refine sw ba.ok (o_as ba.at_) (fun du bb => ?_)
   refine wpList_nil (th_n (cb _ _ (wp_ret (ret1 bb.ok rfl (bb.at_) ⟨i, rfl, hdI29.count, by have h := b9; rw [hdI29.end_] at h; exact h, ca⟩))))
theorem deleteP (K : List PtX) (v : Value) (base : Nat) (f : FuncId) (caps : List Value) (p : PtX → Bool) (hf : FnOk Tryz.prog f) (hl : K.length ≤ 100000) (w0 w : World) (hG : Gr w0 w) (hB : w0.heap.size ≤ base) (hz : base ≤ w.heap.size)
  (ho : w.ownsRow base 151 3 v K.length (flatE encP K)) (hc : ∀ x ∈ K, ∀ w1, w.grownBy w1 v.ownBlock → Calls Tryz.prog f (.agg #[.slice x.fa x.fn x.fc, .slice x.va x.vn x.vc, .slice x.ma x.mn x.mc] :: caps).toArray w1 fun e w2 => e = .returned (.bool (p x)) ∧ Gr w1 w2) :
  Calls Tryz.prog 178 #[v, .func (.func f) #[] caps.toArray] w fun e w' => ∃ u, e = .returned u ∧ u.ownBlock = v.ownBlock ∧ w'.ownsRow base 151 3 u (K.filter (fun x => !p x)).length (flatE encP (K.filter (fun x => !p x))) ∧ w.grownBy w' v.ownBlock := by
 have ho' := ho
 obtain ⟨-, ⟨rfl, hn⟩ | ⟨g, cap, cur, rfl, hb, hg, hnc, hcm, hcs, ht⟩⟩ := ho'
 ·obtain rfl : K = [] := List.eq_nil_of_length_eq_zero hn
  refine (deleteP0 f caps p hf w).mono ?_
  rintro e w' ⟨rfl, g⟩
  exact ⟨_, rfl, rfl, World.ownsRow_nil _ _ _ _, gb_of g⟩
 ·refine (deleteP1 K g cap base f caps p hf hl hnc w0 w hG hB hz ho hc).mono ?_
  rintro e w' ⟨n, rfl, rfl, h1, h2⟩
  exact ⟨_, rfl, rfl, h1, h2⟩
end Go.Proofs.YtglbnggkkjhokaaGreat
/- The document's sets of dots: Size, Formed, Know. -/
namespace Rm
open Go Go.RowKit Gx
def a5 (f : Nat → Int) : Array Value := #[.int .i64 (f 0), .int .i64 (f 1), .int .i64 (f 2), .int .i64 (f 3), .int .i64 (f 4)]
def u5 (f : Nat → Int) (s : Nat) (z : Int) : Nat → Int := fun t => if t = s then z else f t
theorem badM_dot {v : List Nat} {M : List (Int × Int)} {k : Nat} {d : Int × Int} (h : M[k]? = some d) (hb : dotB d = false) : badM v M k = 1 := by
 unfold badM; rw [h]; simp only; rw [if_pos hb]
end Rm
namespace Gx
open Go Go.RowKit Rm
section
variable {P : Program} {ev : Operand → Value} {d : Option Tmp} {ty : TypeId} {p : String} {af : Array Edge} {g : Option (Nat × Bool)} {w : World}
theorem o_remU {t t' : TypeId} {x y : Operand} {i j r : Nat} (hx : ev x = .int .u64 (i : Int)) (hy : ev y = .int .u64 (j : Int)) (hj : 0 < j) (hr : i % j = r) : (execOp ev (Oper.mk d (.binOp .rem t x y t') ty p af g)).run P w = .ok (.value (.int .u64 (r : Int))) w := by
 subst hr
 have h0 : ¬ (j : Int) = 0 := by omega
 have h1 : (i : Int).tmod (j : Int) = ((i % j : Nat) : Int) := by rw [Int.tmod_eq_emod_of_nonneg (by omega)]; rfl
 unfold execOp
 simp only [hx, hy, eqGuard, binOp, Op.intDiv, if_neg h0, h1, Sem.run_bind]
 rfl
theorem o_cv {s t : TypeId} {x : Operand} {k k' : IntKind} {i r : Int} (hx : ev x = .int k i) (hs : P.underlying s = some (.int k)) (ht : P.underlying t = some (.int k')) (hr : k'.wrap i = r) : (execOp ev (Oper.mk d (.convert s t x) ty p af g)).run P w = .ok (.value (.int k' r)) w := by
 subst hr
 simp [execOp, convert, hx, run_underlying hs, run_underlying ht, Conv.intToInt, go_sem]
end
end Gx
namespace Go.Proofs.YtglbnggkkjhokaaGreat
open Go.RowKit Rm Gx
end Go.Proofs.YtglbnggkkjhokaaGreat
/- Answers of the sets of dots in one form. -/
namespace Rm
def frE (D : DS) : Int := if (formM D).length ≤ 60 then 0 else 2
def frV (D : DS) : List Nat := if (formM D).length ≤ 60 then formV D else []
def frM (D : DS) : List (Nat × Nat) := if (formM D).length ≤ 60 then formM D else []
end Rm
namespace Go.Proofs.YtglbnggkkjhokaaGreat
open Go.RowKit Rm Gx
theorem frmK.one {base : Nat} {w : World} {e : Ending} {D : DS} (h : frmK base w e D) : ∃ k, e = .returned (.tuple #[k, .int .i64 (frE D)]) ∧ KnO base w k (frV D) (frM D) := by
 obtain ⟨k, r, rfl, ⟨h1, rfl, h2⟩ | ⟨h1, rfl, h2⟩⟩ := h
 ·exact ⟨k, by unfold frE; rw [if_pos h1], by unfold frV frM; rw [if_pos h1, if_pos h1]; exact h2⟩
 ·have h1' : ¬ (formM D).length ≤ 60 := by omega
  exact ⟨k, by unfold frE; rw [if_neg h1'], by unfold frV frM; rw [if_neg h1', if_neg h1']; exact h2⟩
theorem KnO.form {base : Nat} {w : World} {k : Value} {v : List Nat} {m : List (Nat × Nat)} (h : KnO base w k v m) : ∃ va vc ma mc, k = .agg #[.slice va (ints v).length vc, .slice ma (pairs m).length mc] := by
 obtain ⟨vv, mv, rfl, h1, h2⟩ := h
 obtain ⟨a, c, rfl, -⟩ := ow_form h1
 obtain ⟨a', c', rfl, -⟩ := ow_form h2
 exact ⟨a, c, a', c', by rw [ints_len, pairs_len]⟩
theorem knR_nil (w : World) : KnR w (.agg #[.slice none 0 0, .slice none 0 0]) [] [] := ⟨_, _, rfl, R1.nil w, Rd2.nil w, ⟨rfl, by simp [flat], .inl ⟨rfl, rfl⟩⟩⟩
theorem chkA_1 {V : List Int} {M : List (Int × Int)} {x y : Int} (h : chkK V M = 0) (hd : dotB (x, y) = false) : chkA V M (x, y) = 1 := by unfold chkA; rw [if_neg (by simp [h]), hd]; rfl
end Go.Proofs.YtglbnggkkjhokaaGreat
/- Equal words; small sets that are written out. -/
namespace Rm
open Go Go.RowKit Gx
end Rm
namespace Go.Proofs.YtglbnggkkjhokaaGreat
open Go.RowKit Rm Gx
section
variable {ev : Operand → Value} {d : Option Tmp} {ty : TypeId} {p : String} {af : Array Edge} {g : Option (Nat × Bool)} {w : World}
end
theorem r1_bk {w : World} {b : Nat} {V : List Int} {cs : Array Value} {t : TypeId} (h : Bk w b cs t) (hc : cs = (V.map (Value.int .i64)).toArray) : R1 w (.slice (some ⟨b, 0, none⟩) V.length V.length) V :=
 ⟨_, _, rfl, Nat.le_refl _, fun _ => ⟨b, 0, rfl, h.lt, fun i x hx => by
  rw [Nat.zero_add]
  exact h.cell i (by subst hc; simp [hx])⟩⟩
end Go.Proofs.YtglbnggkkjhokaaGreat
/- reedkeep.Within, set, knowBegun. -/
namespace Rm
open Go Go.RowKit Gx
def wi (k : Int) (n : Nat) : Nat := (k % 18446744073709551616).toNat % n
theorem wi_lt (k : Int) (n : Nat) (h : 0 < n) : wi k n < n := Nat.mod_lt _ h
theorem kwrap64 (k : Int) : IntKind.u64.wrap k = (((k % 18446744073709551616).toNat : Nat) : Int) := by
 rw [IntKind.wrap_u64]; omega
def RdLL (w : World) (v : Value) (L : List (List Int)) : Prop :=
  ∃ a c, v = .slice a L.length c ∧ L.length ≤ c ∧ (L ≠ [] → ∃ b off, a = some ⟨b, off, none⟩ ∧ b < w.heap.size ∧ ∀ i x, L[i]? = some x → ∃ ua uc, w.cell? ⟨b, off + i * 1, none⟩ = some (.slice ua x.length uc) ∧ RdI1 w ua x)
end Rm
namespace Go.Proofs.YtglbnggkkjhokaaGreat
open Go.RowKit Rm Gx
theorem kwithin_any (k : Int) (n : Nat) (hn : 0 < n) (hn2 : n < 1000000) (w : World) :
  Calls Tryz.prog 60 #[.int .i64 (k), .int .i64 (n : Int)] w fun e w' => e = .returned (.int .i64 ((wi k n : Nat) : Int)) ∧ Gr w w' := by
 refine enter (N := 11) Tryz.func60 rfl rfl rfl (fun o ok0 a => ?_)
 have y : o.eval (.tmp 0) = .int .i64 (k) := a 0 _ rfl
 have z : o.eval (.tmp 1) = .int .i64 (n : Int) := a 1 _ rfl
 clear a
 have A := Gr.refl w
 refine wp_seq_k (fun E B => (wp_region_lit (sw ok0 (o_as ev_const) (fun F b => ?_))))
 refine wpList_nil (th_n (B _ _ (wp_seq_k (fun G C => (wp_region_lit (sw b.ok (o_mv (b.n y)) (fun H c => ?_)))))))
 refine sw c.ok (o_cv c.at_ Tryz.underlying3 Tryz.underlying152 (kwrap64 k)) (fun I g => ?_)
 have D := g.n (c.n (b.n z))
 refine sw g.ok (o_mv D) (fun J h => ?_)
 refine sw h.ok (o_cv h.at_ Tryz.underlying3 Tryz.underlying152 (IntWalk.u64_in _ (by omega))) (fun K l => ?_)
 have hlt := wi_lt k n hn
 refine sw l.ok (o_remU (i := (k % 18446744073709551616).toNat) (j := n) (r := wi k n) (l.n (h.n g.at_)) l.at_ hn rfl) (fun L q => ?_)
 refine sw q.ok (o_cv q.at_ Tryz.underlying152 Tryz.underlying3 (IntWalk.i64_in _ (by omega))) (fun M t => ?_)
 refine sw t.ok (o_as t.at_) (fun O u => ?_)
 refine wpList_nil (th_n (C _ _ (wp_ret (ret1 u.ok rfl (u.at_) ⟨rfl, A⟩))))
end Go.Proofs.YtglbnggkkjhokaaGreat
/- An argument that is a slice of structs of two integers reads as a list. -/
namespace Go.Proofs.YtglbnggkkjhokaaGreat
open Go.ChangeShapes Go.WideShapes Go.ChangeAt Go.RowKit Go.Deep Rm
theorem add_none {b off k : Nat} : (⟨b, off, none⟩ : Addr).add k = ⟨b, off + k, none⟩ := by
 unfold Addr.add
 by_cases h : k = 0 <;> simp [h]
theorem rd2_of {W : World} {a : Addr} {len cap : Nat} {V0 V1 : Nat → Value} (hl : len ≤ cap)
  (hc : ∀ i, i < len → W.cell? (a.add (i * 2)) = some (V0 i) ∧ W.cell? (a.add (i * 2 + 1)) = some (V1 i))
  (hi : ∀ i, i < len → ∃ x y : Int, V0 i = .int .i64 x ∧ V1 i = .int .i64 y) : ∃ l, Rd2 W (.slice (some a) len cap) l ∧ l.length = len := by
 have hi' : ∀ i, ∃ p : Int × Int, i < len → V0 i = .int .i64 p.1 ∧ V1 i = .int .i64 p.2 := by
  intro i
  by_cases h : i < len
  ·obtain ⟨x, y, e⟩ := hi i h
   exact ⟨(x, y), fun _ => e⟩
  ·exact ⟨(0, 0), fun h' => absurd h' h⟩
 refine ⟨(List.range len).map fun i => Classical.choose (hi' i), ⟨some a, cap, by simp, by simpa using hl, fun hne => ?_⟩, by simp⟩
 have h0 : 0 < len := by
  rcases Nat.eq_zero_or_pos len with h | h
  ·subst h; simp at hne
  ·exact h
 obtain ⟨b, off, spot⟩ := a
 have hc0 := (hc 0 h0).1
 have hspot : spot = none := by simpa [Addr.add] using World.cell?_spot hc0
 subst hspot
 have hlt : b < W.heap.size := by
  have := block_lt_of_cell hc0
  simpa [Addr.add] using this
 refine ⟨b, off, rfl, hlt, fun i p hp => ?_⟩
 have hil : i < len := by
  have := (List.getElem?_eq_some_iff.1 hp).1
  simpa using this
 have hp' : p = Classical.choose (hi' i) := by
  simp [List.getElem?_map, List.getElem?_range hil] at hp
  exact hp.symm
 obtain ⟨e1, e2⟩ := Classical.choose_spec (hi' i) hil
 obtain ⟨q1, q2⟩ := hc i hil
 rw [add_none] at q1 q2
 rw [hp']
 exact ⟨q1.trans (congrArg some e1), by rw [Nat.add_assoc]; exact q2.trans (congrArg some e2)⟩
end Go.Proofs.YtglbnggkkjhokaaGreat
/- An argument that is a set of dots, or a dot, reads as plain data. -/
namespace Go.Proofs.YtglbnggkkjhokaaGreat
open Go.ChangeShapes Go.WideShapes Go.ChangeAt Go.RowKit Go.Deep Rm
section
variable {H : Type} {enc : TypeId × Value → H} {W : World} {base : Nat} {spare : Nat → Bool} {held : Bool}
theorem kint_cells : Tryz.prog.cellsOf 3 = 1 := by kernel_rfl
theorem kints_cells : Tryz.prog.cellsOf 45 = 1 := by kernel_rfl
theorem flat_split (l : List (Int × Int)) (j : Nat) (u : Value) (h : (flat l)[j]? = some u) : ∃ i p, l[i]? = some p ∧ ((j = i * 2 ∧ u = .int .i64 p.1) ∨ (j = i * 2 + 1 ∧ u = .int .i64 p.2)) := by
 induction l generalizing j with
 | nil => simp [flat] at h
 | cons q l ih =>
  rw [flat_cons] at h
  match j, h with
  | 0, h => simp at h; exact ⟨0, q, rfl, .inl ⟨rfl, h.symm⟩⟩
  | 1, h => simp at h; exact ⟨0, q, rfl, .inr ⟨rfl, h.symm⟩⟩
  | j + 2, h =>
   obtain ⟨i, p, hp, hc⟩ := ih j (by simpa using h)
   exact ⟨i + 1, p, by simpa using hp, hc.imp (fun ⟨a, b⟩ => ⟨by omega, b⟩) (fun ⟨a, b⟩ => ⟨by omega, b⟩)⟩
theorem rdC_of2 {W : World} {a : Addr} {n c : Nat} {l : List (Int × Int)} (h : Rd2 W (.slice (some a) n c) l) : RdC 2 W (.slice (some a) n c) l.length (flat l) := by
 obtain ⟨a', c', e, hc, hx⟩ := h
 cases e
 refine ⟨flat_len l, flat_one l, .inr ⟨a, c, rfl, hc, fun hn => ?_, fun j u hj => ?_⟩⟩
 ·obtain ⟨b, off, e, hb, _⟩ := hx (by rintro rfl; exact hn rfl)
  cases e; exact hb
 ·obtain ⟨i, p, hp, hc⟩ := flat_split l j u hj
  obtain ⟨b, off, e, hb, hcl⟩ := hx (by rintro rfl; simp at hp)
  cases e
  rw [add_none]
  obtain ⟨h1, h2⟩ := hcl i p hp
  rcases hc with ⟨rfl, rfl⟩ | ⟨rfl, rfl⟩
  ·exact h1
  ·exact h2
theorem dots_trod {fuel : Nat} {cs : List Value} {x : DataW H × List MemPlace} (h : DataW.trod enc Tryz.prog W base spare held fuel 73 cs = some x) : ∃ v l, cs = [v] ∧ Rd2 W v l ∧ RdC 2 W v l.length (flat l) := by
 rcases open_slice_pairs Tryz.underlying73 Tryz.underlying51 (by kernel_rfl) rfl rfl (by kernel_rfl) (by kernel_rfl) h with ⟨rfl, _⟩ | ⟨a, len, cap, m, n, V0, V1, D0, D1, P0, P1, rfl, hb, hl, hm, hmm, hx, hcell⟩
 ·exact ⟨_, [], rfl, Rd2.nil W, ⟨rfl, by simp [flat], .inl ⟨rfl, rfl⟩⟩⟩
 ·have hlm : len ≤ m := by rw [hmm]; split <;> omega
  obtain ⟨l, hl', _⟩ := rd2_of (W := W) (a := a) (V0 := V0) (V1 := V1) hl (fun i hi => ⟨(hcell i (by omega)).1, (hcell i (by omega)).2.1⟩) (fun i hi => by
   obtain ⟨_, _, t0, t1⟩ := hcell i (by omega)
   obtain ⟨x, ex, _, _⟩ := DataW.trod_int Tryz.underlying3 t0
   obtain ⟨y, ey, _, _⟩ := DataW.trod_int Tryz.underlying3 t1
   simp at ex ey
   exact ⟨x, y, ex, ey⟩)
  exact ⟨_, l, rfl, hl', rdC_of2 hl'⟩
theorem kints_trod {fuel : Nat} {cs : List Value} {x : DataW H × List MemPlace} (h : DataW.trod enc Tryz.prog W base spare held fuel 45 cs = some x) : ∃ v l, cs = [v] ∧ R1 W v l := by
 rcases open_slice1 Tryz.underlying45 kint_cells h with ⟨rfl, _⟩ | ⟨a, len, cap, m, n, V, D, Pl, rfl, hb, hl, hm, hmm, hx, hcell⟩
 ·exact ⟨_, [], rfl, R1.nil W⟩
 ·have hlm : len ≤ m := by rw [hmm]; split <;> omega
  obtain ⟨q, hq⟩ := choose_lt (α := Int) (n := len) (p := fun i p => W.cell? (a.add i) = some (.int .i64 p)) (fun i hi => by
    obtain ⟨h1, h2⟩ := hcell i (by omega)
    obtain ⟨x, ex, _, _⟩ := DataW.trod_int Tryz.underlying3 h2
    simp at ex
    exact ⟨x, by rw [h1, ex]⟩)
  refine ⟨_, (List.range len).map q, rfl, ⟨some a, cap, by simp, by simpa using hl, fun hne => ?_⟩⟩
  have h0 : 0 < len := by
   rcases Nat.eq_zero_or_pos len with h | h
   ·subst h; simp at hne
   ·exact h
  obtain ⟨b, off, spot⟩ := a
  have hc0 := hq 0 h0
  have hspot : spot = none := by simpa [Addr.add] using World.cell?_spot hc0
  subst hspot
  have hlt : b < W.heap.size := by
   have := block_lt_of_cell hc0
   simpa [Addr.add] using this
  refine ⟨b, off, rfl, hlt, fun i p hp => ?_⟩
  have hil : i < len := by
   have := (List.getElem?_eq_some_iff.1 hp).1
   simpa using this
  have hp' : p = q i := by
   simp [List.getElem?_map, List.getElem?_range hil] at hp
   exact hp.symm
  subst hp'
  have q1 := hq i hil
  rw [add_none] at q1
  exact q1
end
end Go.Proofs.YtglbnggkkjhokaaGreat
/- Sets of small dots: joined, met, compared. -/
namespace Rm
open Go Go.RowKit Gx
end Rm
namespace Go.Proofs.YtglbnggkkjhokaaGreat
open Go.ChangeShapes Go.WideShapes Go.ChangeAt Go.RowKit Go.Deep Rm Gx
def KnD (w : World) (k : Value) (D : DS) : Prop := KnR w k (ints (formV D)) (pairs (formM D))
theorem KnD.gr {w w' : World} {k : Value} {D : DS} (h : KnD w k D) (g : Gr w w') : KnD w' k D := KnR.gr h g
section
variable {H : Type} {enc : TypeId × Value → H} {W : World} {base : Nat} {spare : Nat → Bool} {held : Bool}
theorem RdI1.of {w : World} {v : Value} {V : List Int} (h : R1 w v V) : ∃ a c, v = .slice a V.length c ∧ V.length ≤ c ∧ RdI1 w a V := by
 obtain ⟨a, c, e, hc, h⟩ := h
 refine ⟨a, c, e, hc, fun hn => ?_⟩
 obtain ⟨b, off, e, hb, hx⟩ := h hn
 exact ⟨b, off, e, hb, fun i x h => by rw [Nat.mul_one]; exact hx i x h⟩
theorem rows_trod {fuel : Nat} {cs : List Value} {x : DataW H × List MemPlace} (h : DataW.trod enc Tryz.prog W base spare held fuel 23 cs = some x) : ∃ v L, cs = [v] ∧ RdLL W v L := by
 rcases open_slice Tryz.underlying23 h with ⟨rfl, _⟩ | ⟨a, len, cap, m, n, D, Pl, rfl, hb, hl, hm, hmm, hx, hcell⟩
 ·exact ⟨_, [], rfl, none, 0, rfl, Nat.le_refl _, fun hn => absurd rfl hn⟩
 ·have hlm : len ≤ m := by rw [hmm]; split <;> omega
  obtain ⟨q, hq⟩ := choose_lt (α := List Int) (n := len) (p := fun i p => ∃ ua uc, W.cell? (a.add i) = some (.slice ua p.length uc) ∧ RdI1 W ua p) (fun i hi => by
    obtain ⟨cs', h1, h2⟩ := hcell i (by omega)
    rw [kints_cells] at h1
    obtain ⟨uv, p, rfl, hs⟩ := kints_trod h2
    obtain ⟨ua, uc, rfl, -, hr⟩ := RdI1.of hs
    obtain ⟨_, _, hc⟩ := World.cells?_some h1
    have e0 := hc 0 (by omega)
    rw [add_add] at e0
    exact ⟨p, ua, uc, by simpa using e0, hr⟩)
  refine ⟨_, (List.range len).map q, rfl, some a, cap, by simp, by simpa using hl, fun hne => ?_⟩
  have h0 : 0 < len := by
   rcases Nat.eq_zero_or_pos len with h | h
   ·subst h; simp at hne
   ·exact h
  obtain ⟨b, off, spot⟩ := a
  obtain ⟨_, _, hc0, _⟩ := hq 0 h0
  have hspot : spot = none := by simpa [Addr.add] using World.cell?_spot hc0
  subst hspot
  have hlt : b < W.heap.size := by
   have := block_lt_of_cell hc0
   simpa [Addr.add] using this
  refine ⟨b, off, rfl, hlt, fun i p hp => ?_⟩
  have hil : i < len := by
   have := (List.getElem?_eq_some_iff.1 hp).1
   simpa using this
  have hp' : p = q i := by
   simp [List.getElem?_map, List.getElem?_range hil] at hp
   exact hp.symm
  subst hp'
  obtain ⟨ua, uc, q1, q2⟩ := hq i hil
  rw [add_none] at q1
  exact ⟨ua, uc, by rw [Nat.mul_one]; exact q1, q2⟩
theorem open_rows {r : Reach} {b0 : Nat} {v : Value} {d : DataW H} {p : List MemPlace}
  (hv : Value.okWide Tryz.prog W r b0 23 v) (h : DataW.Trod enc Tryz.prog W base spare held 23 v d p) : ∃ L, RdLL W v L := by
 obtain ⟨a0, len0, cap0, rfl⟩ := okWide_slice Tryz.underlying23 hv
 obtain ⟨fuel, hf⟩ := h
 obtain ⟨v, l, e, hl⟩ := rows_trod hf
 simp [Value.cells] at e
 subst e
 exact ⟨l, hl⟩
end
end Go.Proofs.YtglbnggkkjhokaaGreat
/- Sets of small dots: within, has, count. -/
namespace Rm
open Go Go.RowKit Gx
def wS (D E : DS) : Bool := withB (formV D) (formV E) (formM D) (formM E)
theorem wS_iff (D E : DS) : wS D E = true ↔ subD D E := by
 unfold wS
 rw [withB_iff (form_ok D) (form_ok E)]
 constructor
 ·intro h s c i hd
  have := h s c i (by rw [form_mem D s c i]; exact hd)
  rwa [form_mem E s c i] at this
 ·intro h s c i hd
  rw [form_mem D s c i] at hd
  rw [form_mem E s c i]
  exact h s c i hd
def hasD (D : DS) (x y : Int) : Bool := dotB (x, y) && D x.toNat y.toNat
def dotE (x y : Int) : Int := if dotB (x, y) then 0 else 1
end Rm
namespace Go.Proofs.YtglbnggkkjhokaaGreat
open Go.RowKit Rm Gx
end Go.Proofs.YtglbnggkkjhokaaGreat
/- Joined: SpanD, SpanE, SpanF, SpanG, SpanH, SpanI, MaskM, SpanO. -/
/- The contracts of package span's combine and what stands on it, and of slices.Equal over spans. -/
namespace Rm
open Go Go.RowKit
theorem sbne_of {a : Int} (h : (a == 0) = true) : (a != 0) = false := by simp [bne, h]
theorem sbne_of' {a : Int} (h : (a == 0) = false) : (a != 0) = true := by simp [bne, h]
theorem chkGo_of : ∀ (L : List (Nat × Nat)) (lo : Nat) (last : Int), last < lo → VF lo L → chkGo last (pairs L) = 0
 | [], _, _, _, _ => rfl
 | p :: L, lo, last, hl, h => by
  obtain ⟨h1, h2, h3, h4⟩ := h
  show (if (p.1 : Int) < 0 ∨ 32 < (p.2 : Int) ∨ (p.2 : Int) ≤ (p.1 : Int) then 1 else if (p.1 : Int) ≤ last then 3 else chkGo (p.2 : Int) (pairs L)) = 0
  rw [if_neg (by omega), if_neg (by omega)]
  exact chkGo_of L (p.2 + 1) p.2 (by omega) h4
theorem chkS_of {L : List (Nat × Nat)} (h : VF 0 L) : chkS (pairs L) = 0 := by
 unfold chkS
 rw [if_neg (by rw [pairs_len]; have := h.len16; omega)]
 exact chkGo_of L 0 (-1) (by omega) h
def lessM (a b : Nat) : Nat := a &&& (4294967295 - b)
theorem lessM_bit (a b i : Nat) (hb : b < 2 ^ 32) (ha : a < 2 ^ 32) : (lessM a b).testBit i = (a.testBit i && !b.testBit i) := by
 unfold lessM
 have e : 4294967295 - b = 2 ^ 32 - (b + 1) := by omega
 rw [e, Nat.testBit_and, Nat.testBit_two_pow_sub_succ hb]
 by_cases h : i < 32
 ·simp [h]
 ·have h2 : a.testBit i = false := Nat.testBit_lt_two_pow (Nat.lt_of_lt_of_le ha (Nat.pow_le_pow_right (by omega) (by omega)))
  simp [h2]
theorem lessM_lt (a b : Nat) (ha : a < 2 ^ 32) : lessM a b < 2 ^ 32 := Nat.lt_of_le_of_lt Nat.and_le_left ha
end Rm
namespace Go.Proofs.YtglbnggkkjhokaaGreat
open Go.RowKit Rm
theorem ListAt.more {w w1 w2 : World} {l : List (Nat × Nat)} {v : Value} (g : Gr w w1) (h : ListAt w1 w2 l v) : ListAt w w2 l v := by
 refine ⟨g.trans h.1, h.2.1, ?_⟩
 rcases h.2.2 with ⟨a, b⟩ | ⟨g', cap, cur, a, b, c⟩
 ·exact .inl ⟨a, b⟩
 ·exact .inr ⟨g', cap, cur, a, Nat.le_trans g.le b, c⟩
end Go.Proofs.YtglbnggkkjhokaaGreat
/- The contracts of math/bits.OnesCount32 and of span.Count, Has, Within. -/
namespace Rm
open Go Go.RowKit
def popTo (m : Nat) : Nat → Nat
  | 0 => 0
  | k + 1 => popTo m k + (m.testBit k).toNat
theorem popTo_le (m k : Nat) : popTo m k ≤ k := by
 induction k with
 | zero => exact Nat.le_refl _
 | succ k ih => have := Bool.toNat_le (m.testBit k); simp only [popTo]; omega
theorem popTo_congr {m m' k : Nat} (h : ∀ i, i < k → m.testBit i = m'.testBit i) : popTo m k = popTo m' k := by
 induction k with
 | zero => rfl
 | succ k ih => simp only [popTo]; rw [ih (fun i hi => h i (by omega)), h k (by omega)]
theorem popTo_add (m j k : Nat) : popTo m (j + k) = popTo m j + popTo (m / 2 ^ j) k := by
 induction k with
 | zero => rfl
 | succ k ih =>
  show popTo m (j + k) + (m.testBit (j + k)).toNat = popTo m j + (popTo (m / 2 ^ j) k + ((m / 2 ^ j).testBit k).toNat)
  rw [ih, Nat.testBit_div_two_pow, Nat.add_comm k j]
  omega
theorem popTo_mod (m : Nat) : popTo (m % 256) 8 = popTo m 8 := by
 apply popTo_congr
 intro i hi
 have e : m % 256 = m % 2 ^ 8 := rfl
 rw [e, Nat.testBit_mod_two_pow]
 simp [hi]
def popTab : Bool := (List.range 256).all fun n => Lib.pop8 (n : Int) == ((popTo n 8 : Nat) : Int)
theorem popTab_true : popTab = true := by decide +kernel
theorem pop8_tab (n : Nat) (h : n < 256) : Lib.pop8 (n : Int) = ((popTo n 8 : Nat) : Int) := by
 have H := popTab_true
 unfold popTab at H
 rw [List.all_eq_true] at H
 have := H n (List.mem_range.2 h)
 simpa only [beq_iff_eq] using this
def popc (m : Nat) : Nat := popTo m 32
theorem popc_le (m : Nat) : popc m ≤ 32 := popTo_le m 32
theorem popc_bytes (x : Nat) : popc x = popTo (x % 256) 8 + popTo (x / 256 % 256) 8 + popTo (x / 65536 % 256) 8 + popTo (x / 16777216 % 256) 8 := by
 unfold popc
 rw [popTo_mod, popTo_mod, popTo_mod, popTo_mod]
 have e1 : popTo x 32 = popTo x 8 + popTo (x / 2 ^ 8) 24 := popTo_add x 8 24
 have e2 : popTo (x / 2 ^ 8) 24 = popTo (x / 2 ^ 8) 8 + popTo (x / 2 ^ 8 / 2 ^ 8) 16 := popTo_add (x / 2 ^ 8) 8 16
 have e3 : popTo (x / 2 ^ 8 / 2 ^ 8) 16 = popTo (x / 2 ^ 8 / 2 ^ 8) 8 + popTo (x / 2 ^ 8 / 2 ^ 8 / 2 ^ 8) 8 := popTo_add (x / 2 ^ 8 / 2 ^ 8) 8 8
 have d1 : x / 2 ^ 8 = x / 256 := rfl
 have d2 : x / 256 / 2 ^ 8 = x / 65536 := by rw [Nat.div_div_eq_div_mul]
 have d3 : x / 65536 / 2 ^ 8 = x / 16777216 := by rw [Nat.div_div_eq_div_mul]
 rw [d1] at e1 e2 e3
 rw [d2] at e2 e3
 rw [d3] at e3
 omega
end Rm
namespace Go.Proofs.YtglbnggkkjhokaaGreat
open Go.RowKit Rm
/-! span.Count -/
/-! span.Has -/
/-! span.Within -/
def subM (a b : Nat) : Bool := lessM a b == 0
end Go.Proofs.YtglbnggkkjhokaaGreat
/- The contracts of slices.Equal over spans, and of the statements' own sets. -/
namespace Go.Proofs.YtglbnggkkjhokaaGreat
open Go.RowKit Rm
end Go.Proofs.YtglbnggkkjhokaaGreat
/- The contracts of the document's own sets: Told, and the statements' spans and every. -/
namespace Rm
open Go Go.RowKit
theorem Blk_lt {w : World} {g : Nat} {o : Obj} (h : w.heap[g]? = some o) : g < w.heap.size := by
 rcases Nat.lt_or_ge g w.heap.size with c | c
 ·exact c
 ·rw [Array.getElem?_eq_none c] at h; cases h
end Rm
namespace Go.Proofs.YtglbnggkkjhokaaGreat
open Go.RowKit Rm
end Go.Proofs.YtglbnggkkjhokaaGreat
/- The contracts of the statements' spans and every. -/
namespace Rm
open Go Go.RowKit
def cut (m k i : Nat) : Bool := decide (i < k) && m.testBit i
end Rm
namespace Go.Proofs.YtglbnggkkjhokaaGreat
open Go.RowKit Rm
end Go.Proofs.YtglbnggkkjhokaaGreat
/- Package span by masks: what each function does to sets that are told by 32 bits. -/
namespace Go.Proofs.YtglbnggkkjhokaaGreat
open Go.RowKit Rm
end Go.Proofs.YtglbnggkkjhokaaGreat
/- The plain mathematics of masks: Boole, De Morgan, parts, counts. -/
namespace Go.Proofs.YtglbnggkkjhokaaGreat
open Rm
theorem bit_big {a i : Nat} (h : a < 2 ^ 32) (hi : ¬ i < 32) : a.testBit i = false :=
 Nat.testBit_lt_two_pow (Nat.lt_of_lt_of_le h (Nat.pow_le_pow_right (by omega) (by omega)))
theorem mask_ext {a b : Nat} (ha : a < 2 ^ 32) (hb : b < 2 ^ 32) (h : ∀ i, i < 32 → a.testBit i = b.testBit i) : a = b := by
 apply Nat.eq_of_testBit_eq
 intro i
 by_cases hi : i < 32
 ·exact h i hi
 ·rw [bit_big ha hi, bit_big hb hi]
theorem sub_iff {a b : Nat} (ha : a < 2 ^ 32) (hb : b < 2 ^ 32) : subM a b = true ↔ ∀ i, i < 32 → a.testBit i = true → b.testBit i = true := by
 unfold subM
 simp only [beq_iff_eq]
 constructor
 ·intro h i hi hai
  have e := lessM_bit a b i hb ha
  rw [h, Nat.zero_testBit, hai] at e
  cases hbi : b.testBit i
  ·rw [hbi] at e; cases e
  ·rfl
 ·intro h
  refine mask_ext (lessM_lt _ _ ha) (by decide) fun i hi => ?_
  rw [lessM_bit _ _ _ hb ha, Nat.zero_testBit]
  cases hai : a.testBit i
  ·rfl
  ·rw [h i hi hai]; rfl
end Go.Proofs.YtglbnggkkjhokaaGreat
/- The contract of span.Of; slices of integers. -/
namespace Rm
open Go Go.RowKit
def maskI (l : List Int) : Nat := l.foldl (fun m x => m ||| 2 ^ x.toNat) 0
theorem maskI_take {l : List Int} {k : Nat} {x : Int} (h : l[k]? = some x) : maskI (l.take (k + 1)) = maskI (l.take k) ||| 2 ^ x.toNat := by
 obtain ⟨hk, e⟩ := List.getElem?_eq_some_iff.1 h
 rw [List.take_succ_eq_append_getElem hk, e]
 simp [maskI]
theorem all_take {l : List Int} {k : Nat} {x : Int} (h : l[k]? = some x) (p : Int → Bool) : (l.take (k + 1)).all p = ((l.take k).all p && p x) := by
 obtain ⟨hk, e⟩ := List.getElem?_eq_some_iff.1 h
 rw [List.take_succ_eq_append_getElem hk, e]
 simp
theorem all_not {l : List Int} {k : Nat} {x : Int} (h : l[k]? = some x) (p : Int → Bool) (hp : p x = false) : l.all p = false := by
 cases ha : l.all p
 ·rfl
 ·rw [List.all_eq_true] at ha
  rw [ha x (List.mem_of_getElem? h)] at hp
  cases hp
theorem foldI_lt (l : List Int) (m : Nat) (hm : m < 2 ^ 32) (h : l.all numB = true) : l.foldl (fun m x => m ||| 2 ^ x.toNat) m < 2 ^ 32 := by
 induction l generalizing m with
 | nil => exact hm
 | cons x l ih =>
  simp only [List.all_cons, Bool.and_eq_true] at h
  refine ih _ (Nat.or_lt_two_pow hm (Nat.pow_lt_pow_right (by omega) ?_)) h.2
  have := h.1
  simp [numB] at this
  omega
theorem maskI_lt {l : List Int} (h : l.all numB = true) : maskI l < 2 ^ 32 := foldI_lt l 0 (by decide) h
end Rm
namespace Go.Proofs.YtglbnggkkjhokaaGreat
open Go.RowKit Rm
def Rd1 (w : World) (v : Value) (l : List Int) : Prop :=
  ∃ a c, v = .slice a l.length c ∧ l.length ≤ c ∧ (l ≠ [] → ∃ b off, a = some ⟨b, off, none⟩ ∧ b < w.heap.size ∧ ∀ i x, l[i]? = some x → w.cell? ⟨b, off + i, none⟩ = some (.int .i64 x))
theorem of_any (v : Value) (l : List Int) (w : World) (hr : Rd1 w v l) (hlen : l.length ≤ 400) :
  Calls Tryz.prog 206 #[v] w fun e w' => (l.all numB = false ∧ e = .returned (.tuple #[.slice none 0 0, .int .i64 1]) ∧ Gr w w') ∨
   (l.all numB = true ∧ ∃ u, e = .returned (.tuple #[u, .int .i64 0]) ∧ ListAt w w' (canon (maskI l)) u ∧ maskI l < 2 ^ 32) := by
 obtain ⟨a, cp, rfl, hcp, hx⟩ := hr
 have HX := Lib.hid hx
 have hlen' : (l.length : Int) ≤ 400 := by omega
 clear hx
 go_enter Tryz.func206, Tryz.ntmps206
 go_wp2_with fail
 go_loopw [4, 12] (fun m i wr => ∃ k : Nat, k ≤ l.length ∧ i = .int .i64 k ∧ m = .int .u32 (maskI (l.take k) : Nat) ∧ Hid ((l.take k).all numB = true) ∧ Gr w wr) (fun _ i _ => l.length - (intOf i).toNat)
 case atStart => exact ⟨0, by omega, rfl, rfl, by simp [Hid], Gr.refl _⟩
 case round =>
  obtain ⟨k, hk, rfl, rfl, hall, hg⟩ := hrel
  generalize wr = wo at *
  by_cases hlt : k < l.length
  ·obtain ⟨x, hp⟩ : ∃ p, l[k]? = some p := ⟨_, List.getElem?_eq_getElem hlt⟩
   obtain ⟨b, off, rfl, hb, hcell⟩ := HX.out (by intro e; rw [e] at hlt; simp at hlt)
   have c1 : w.cell? ⟨b, off + k, none⟩ = some (.int .i64 x) := hcell k _ hp
   rw [← hg.cells.1 b _ hb] at c1
   have hbr : b < wo.heap.size := Nat.lt_of_lt_of_le hb hg.le
   have hml := Lib.hid (maskI_lt hall.out)
   have HM := Lib.hid (maskI_take hp)
   have HAT := Lib.hid (all_take hp numB)
   have HNO := Lib.hid (all_not hp numB)
   generalize maskI (l.take k) = m at *
   have hk4 : (k : Int) < 400 := by omega
   clear hcell
   have HP := Lib.hid hp
   clear hp
   cases hn : numB x
   ·have HN := Lib.hid (HNO.out hn)
    clear HNO
    go_wp2_with fail
    refine (isNum_any _ _).mono ?_
    rintro e w2 ⟨rfl, rfl⟩
    go_wp2_with fail
    go_ret2
    exact Or.inl ⟨HN.out, rfl, hg⟩
   ·obtain ⟨n, rfl⟩ := Int.eq_ofNat_of_zero_le (show 0 ≤ x by simp [numB] at hn; omega)
    have hn32 : n < 32 := by simp [numB] at hn; omega
    have HO := Lib.hid (or_eq m n hml.out hn32)
    have hn32' : (n : Int) < 32 := by omega
    have HA : Hid ((l.take (k + 1)).all numB = true) := by unfold Hid; rw [HAT.out, hall.out, hn]; rfl
    have HM2 : Hid (maskI (l.take (k + 1)) = m ||| 2 ^ n) := HM.out
    clear HNO HAT HM
    go_wp2_with fail
    refine (isNum_any _ _).mono ?_
    rintro e w2 ⟨rfl, rfl⟩
    go_wp2
    go_roundw
    case measure => simp [intOf]; omega
    case rel => exact ⟨k + 1, by omega, by go_num, by rw [HM2.out, ← HO.out, IntKind.wrap_u32'], HA, hg⟩
  ·obtain rfl : k = l.length := by omega
   rw [List.take_length] at hall
   rw [List.take_length]
   have HL := Lib.hid (maskI_lt hall.out)
   go_wp2_with fail
   refine (list_any _ _ HL.out).mono ?_
   rintro e w2 ⟨u, rfl, hu⟩
   go_wp2_with fail
   go_ret2
   exact Or.inr ⟨hall.out, _, rfl, hu.more hg, HL.out⟩
end Go.Proofs.YtglbnggkkjhokaaGreat
/- Joined: CubeA, CubeH. -/
/- The contracts of package cube's small functions. -/
namespace Go.Proofs.YtglbnggkkjhokaaGreat
open Go.RowKit Rm
theorem bne_of {a : Int} (h : (a == 0) = true) : (a != 0) = false := by simp [bne, h]
theorem bne_of' {a : Int} (h : (a == 0) = false) : (a != 0) = true := by simp [bne, h]
theorem areTags_any (x : Int) (w : World) :
  Calls Tryz.prog 159 #[.int .i64 x] w fun e w' => e = .returned (.bool (tagsB x)) ∧ w = w' := by
 by_cases h0 : 0 ≤ x
 ·by_cases h1 : x ≤ 15
  ·have ht : tagsB x = true := by simp [tagsB, h0, h1]
   rw [ht]
   go_enter Tryz.func159, Tryz.ntmps159
   go_wp2
   go_ret
   exact ⟨rfl, rfl⟩
  ·have ht : tagsB x = false := by simp [tagsB, h1]
   rw [ht]
   go_enter Tryz.func159, Tryz.ntmps159
   go_wp2
   go_ret
   exact ⟨rfl, rfl⟩
 ·have ht : tagsB x = false := by simp [tagsB, h0]
  rw [ht]
  go_enter Tryz.func159, Tryz.ntmps159
  go_wp2
  go_ret
  exact ⟨rfl, rfl⟩
theorem check_any (y n : Int) (w : World) :
  Calls Tryz.prog 110 #[.agg #[.int .i64 y, .int .i64 n]] w fun e w' => e = .returned (.int .i64 (chk y n)) ∧ Gr w w' := by
 cases hy : tagsB y
 ·have hc : chk y n = 1 := by simp [chk, hy]
  rw [hc]
  go_enter Tryz.func110, Tryz.ntmps110
  go_wp2_with (go_at_call 159; refine (areTags_any _ _).mono ?_; rintro e w' ⟨rfl, rfl⟩)
  go_ret
  exact ⟨rfl, (Gr.refl _).alloc _⟩
 cases hn : tagsB n
 ·have hc : chk y n = 1 := by simp [chk, hn]
  rw [hc]
  go_enter Tryz.func110, Tryz.ntmps110
  go_wp2_with (go_at_call 159; refine (areTags_any _ _).mono ?_; rintro e w' ⟨rfl, rfl⟩)
  go_ret
  exact ⟨rfl, (Gr.refl _).alloc _⟩
 cases hb : (bits .and .i64 y n == 0)
 ·have hc : chk y n = 3 := by simp [chk, hy, hn, hb]
  rw [hc]
  have hb' : (bits .and .i64 y n != 0) = true := by simp [bne, hb]
  go_enter Tryz.func110, Tryz.ntmps110
  go_wp2_with (go_at_call 159; refine (areTags_any _ _).mono ?_; rintro e w' ⟨rfl, rfl⟩)
  go_ret
  exact ⟨rfl, (Gr.refl _).alloc _⟩
 ·have hc : chk y n = 0 := by simp [chk, hy, hn, hb]
  rw [hc]
  have hb' : (bits .and .i64 y n != 0) = false := by simp [bne, hb]
  go_enter Tryz.func110, Tryz.ntmps110
  go_wp2_with (go_at_call 159; refine (areTags_any _ _).mono ?_; rintro e w' ⟨rfl, rfl⟩)
  go_ret
  exact ⟨rfl, (Gr.refl _).alloc _⟩
end Go.Proofs.YtglbnggkkjhokaaGreat
/- The contract of cube.Has. -/
namespace Go.Proofs.YtglbnggkkjhokaaGreat
open Go.RowKit Rm
theorem has_any (y n t : Int) (w : World) :
  Calls Tryz.prog 161 #[.agg #[.int .i64 y, .int .i64 n], .int .i64 t] w fun e w' => e = .returned (.tuple #[.bool (hasR y n t), .int .i64 (hasE y n t)]) ∧ Gr w w' := by
 cases hc : (chk y n == 0)
 ·have hc1 : hasE y n t = chk y n := by simp [hasE, hc]
  have hc2 : hasR y n t = false := by simp [hasR, hc1, hc]
  rw [hc2, hc1]
  have hc' := bne_of' hc
  clear hc1 hc2
  go_enter Tryz.func161, Tryz.ntmps161
  go_wp2_with (go_at_call 110; refine (check_any _ _ _).mono ?_; rintro e w1 ⟨rfl, hb⟩)
  go_ret2
  exact ⟨rfl, ((Gr.refl _).alloc _).trans hb⟩
 ·have hc' := bne_of hc
  have h0 : chk y n = 0 := by simpa using hc
  cases ht : tagsB t
  ·have hc1 : hasE y n t = 1 := by simp [hasE, h0, ht]
   have hc2 : hasR y n t = false := by simp [hasR, hc1]
   rw [hc2, hc1]
   clear hc1 hc2 h0
   go_enter Tryz.func161, Tryz.ntmps161
   go_wp2_with fail
   refine (check_any _ _ _).mono ?_
   rintro e w1 ⟨rfl, hb⟩
   go_wp2_with (go_at_call 159; refine (areTags_any _ _).mono ?_; rintro e w' ⟨rfl, rfl⟩)
   go_ret2
   exact ⟨rfl, ((Gr.refl _).alloc _).trans hb⟩
  ·have hc1 : hasE y n t = 0 := by simp [hasE, h0, ht]
   cases h1 : (bits .andNot .i64 y t == 0)
   ·have hc2 : hasR y n t = false := by simp [hasR, hasB, hc1, h1]
    rw [hc2, hc1]
    clear hc1 hc2 h0
    go_enter Tryz.func161, Tryz.ntmps161
    go_wp2_with fail
    refine (check_any _ _ _).mono ?_
    rintro e w1 ⟨rfl, hb⟩
    obtain ⟨hbc, hbf⟩ := hb.cells
    go_wp2_with (go_at_call 159; refine (areTags_any _ _).mono ?_; rintro e w' ⟨rfl, rfl⟩)
    go_ret2
    exact ⟨rfl, ((Gr.refl _).alloc _).trans hb⟩
   ·cases h2 : (bits .and .i64 n t == 0)
    ·have hc2 : hasR y n t = false := by simp [hasR, hasB, hc1, h2]
     rw [hc2, hc1]
     clear hc1 hc2 h0
     go_enter Tryz.func161, Tryz.ntmps161
     go_wp2_with fail
     refine (check_any _ _ _).mono ?_
     rintro e w1 ⟨rfl, hb⟩
     obtain ⟨hbc, hbf⟩ := hb.cells
     go_wp2_with (go_at_call 159; refine (areTags_any _ _).mono ?_; rintro e w' ⟨rfl, rfl⟩)
     go_ret2
     exact ⟨rfl, ((Gr.refl _).alloc _).trans hb⟩
    ·have hc2 : hasR y n t = true := by simp [hasR, hasB, hc1, h1, h2]
     rw [hc2, hc1]
     clear hc1 hc2 h0
     go_enter Tryz.func161, Tryz.ntmps161
     go_wp2_with fail
     refine (check_any _ _ _).mono ?_
     rintro e w1 ⟨rfl, hb⟩
     obtain ⟨hbc, hbf⟩ := hb.cells
     go_wp2_with (go_at_call 159; refine (areTags_any _ _).mono ?_; rintro e w' ⟨rfl, rfl⟩)
     go_ret2
     exact ⟨rfl, ((Gr.refl _).alloc _).trans hb⟩
end Go.Proofs.YtglbnggkkjhokaaGreat
/- The contracts of the document's own Spans and Set. -/
namespace Rm
open Go Go.RowKit
theorem Gr.setRow {a w : World} (h : Gr a w) {g : Nat} (hg : a.heap.size ≤ g) (cs : Array Value) : Gr a (w.setRow g cs) :=
 ⟨h.os, h.tape, h.output, by have := h.le; simpa using this, fun k hk => (setRow_other w g k cs (by omega)).trans (h.block k hk)⟩
end Rm
namespace Go.Proofs.YtglbnggkkjhokaaGreat
open Go.RowKit Rm
end Go.Proofs.YtglbnggkkjhokaaGreat
