/- know.build: the form of the dots up to some counts and of those in a list. -/
import Derived.Test.YtghjfakellaecaaKnH
import Derived.Test.YtghjfakellaecaaKnI
import Derived.Test.YtghjfakellaecaaKnC
import Derived.Test.YtghjfakellaecaaConcatD
import Derived.Deep.LoopGhost
import Derived.Laws.ResultCell
set_option linter.unusedVariables false
set_option linter.unusedSimpArgs false
namespace Rm
open Go Go.RowKit
theorem flatI_len (l : List Nat) : (flatI l).length = l.length := by simp [flatI]
theorem flatI_one (l : List Nat) : ∀ u ∈ flatI l, u.oneCell' = true := by
  intro u hu
  obtain ⟨x, _, rfl⟩ := List.mem_map.1 hu
  rfl
theorem R1.own {w : World} {base : Nat} {e : TypeId} {v : Value} {l : List Nat} (h : w.ownsRow base e 1 v l.length (flatI l)) : R1 w v (ints l) := by
  obtain ⟨hl, ⟨rfl, h0⟩ | ⟨g, cap, cur, rfl, _, hg, hn, _, hs, ht⟩⟩ := h
  · obtain rfl : l = [] := List.eq_nil_of_length_eq_zero h0
    exact R1.nil w
  · refine ⟨_, cap, by rw [ints_len], by rw [ints_len]; exact hn, fun _ => ⟨g, 0, rfl, (Array.getElem?_eq_some_iff.1 hg).1, fun i x hx => ?_⟩⟩
    simp only [ints, List.getElem?_map, Option.map_eq_some_iff] at hx
    obtain ⟨y, hy, rfl⟩ := hx
    have hi : i < l.length := (List.getElem?_eq_some_iff.1 hy).1
    have h1 : (cur.toList.take (l.length * 1))[i]? = (flatI l)[i]? := by rw [ht]
    rw [List.getElem?_take_of_lt (by omega)] at h1
    simp only [flatI, List.getElem?_map, hy, Option.map_some] at h1
    simp only [World.cell?, hg, Nat.zero_add]
    simpa using h1
theorem RdC.own {s : Nat} {w : World} {base : Nat} {e : TypeId} {v : Value} {n : Nat} {xs : List Value} (h : w.ownsRow base e s v n xs) (h1 : ∀ u ∈ xs, u.oneCell' = true) : RdC s w v n xs := by
  obtain ⟨hl, ⟨rfl, h0⟩ | ⟨g, cap, cur, rfl, _, hg, hn, _, hs, ht⟩⟩ := h
  · exact ⟨hl, h1, .inl ⟨rfl, h0⟩⟩
  · refine ⟨hl, h1, .inr ⟨_, cap, rfl, hn, fun _ => (Array.getElem?_eq_some_iff.1 hg).1, fun j u hj => ?_⟩⟩
    have hj' : j < n * s := by rw [← hl]; exact (List.getElem?_eq_some_iff.1 hj).1
    have e1 : (cur.toList.take (n * s))[j]? = xs[j]? := by rw [ht]
    rw [List.getElem?_take_of_lt hj', hj] at e1
    rw [adn, Nat.zero_add]
    simp only [World.cell?, hg]
    simpa using e1
theorem ddT_len (l : List (Nat × Nat)) : ∀ k, (ddT l k).length ≤ k
  | 0 => Nat.le_refl _
  | k + 1 => by
    have ih := ddT_len l k
    show (match l[k]? with | none => ddT l k | some d => if 0 < k ∧ l[k - 1]? = some d then ddT l k else ddT l k ++ [d]).length ≤ k + 1
    split
    · omega
    · split
      · omega
      · simp; omega
theorem ddT_all_mem (l : List (Nat × Nat)) (d : Nat × Nat) : d ∈ ddT l l.length ↔ d ∈ l := by
  rw [ddT_mem (Nat.le_refl _)]
  constructor
  · rintro ⟨j, _, h⟩; exact List.mem_of_getElem? h
  · intro h
    obtain ⟨j, hj⟩ := List.getElem?_of_mem h
    exact ⟨j, (List.getElem?_eq_some_iff.1 hj).1, hj⟩
theorem take_snoc {α : Type} {l : List α} {i : Nat} {x : α} (h : l[i]? = some x) : l.take (i + 1) = l.take i ++ [x] := by
  rw [List.take_add_one, h]; rfl
theorem sorted_before {l : List (Nat × Nat)} (hs : l.Pairwise ltD) {i : Nat} {d : Nat × Nat} (h : l[i]? = some d) : ∀ x ∈ l.take i, ltD x d := by
  intro x hx
  obtain ⟨j, hj⟩ := List.getElem?_of_mem hx
  have hji : j < i := by have := (List.getElem?_eq_some_iff.1 hj).1; simp at this; omega
  rw [List.getElem?_take_of_lt hji] at hj
  obtain ⟨h1, e1⟩ := List.getElem?_eq_some_iff.1 hj
  obtain ⟨h2, e2⟩ := List.getElem?_eq_some_iff.1 h
  have := List.pairwise_iff_getElem.1 hs j i h1 h2 hji
  rw [e1, e2] at this
  exact this
theorem cArr_setC (v : List Nat) (s n : Nat) (hs : s < 5) : (cArr v).setIfInBounds s (.int .i64 (n : Nat)) = cArr (setC v s n) := by
  match s, hs with
  | 0, _ => rfl
  | 1, _ => rfl
  | 2, _ => rfl
  | 3, _ => rfl
  | 4, _ => rfl
end Rm
namespace Go.Proofs.Ytghjfakellaecaa
open Go.RowKit Rm
/-- a set of dots that owns what it holds, in new memory -/
def KnO (base : Nat) (w : World) (k : Value) (v : List Nat) (m : List (Nat × Nat)) : Prop :=
  ∃ vv mv, k = .agg #[vv, mv] ∧ w.ownsRow base 3 1 vv v.length (flatI v) ∧ w.ownsRow base 26 2 mv m.length (flat (pairs m))
theorem KnO.rd {base : Nat} {w : World} {k : Value} {v : List Nat} {m : List (Nat × Nat)} (h : KnO base w k v m) : KnR w k (ints v) (pairs m) := by
  obtain ⟨vv, mv, rfl, h1, h2⟩ := h
  have h2' : w.ownsRow base 26 2 mv (pairs m).length (flat (pairs m)) := by rw [pairs_len]; exact h2
  exact ⟨vv, mv, rfl, R1.own h1, Rd2.own h2', RdC.own h2' (flat_one _)⟩
theorem kown_gr {w w' : World} {base : Nat} {e : TypeId} {s n : Nat} {v : Value} {xs : List Value} (h : w.ownsRow base e s v n xs) (g : Gr w w') : w'.ownsRow base e s v n xs := by
  obtain ⟨h1, h2 | ⟨b, cap, cur, e, h3, hg, h4⟩⟩ := h
  · exact ⟨h1, .inl h2⟩
  · exact ⟨h1, .inr ⟨b, cap, cur, e, h3, (Below.block g b (Array.getElem?_eq_some_iff.1 hg).1).trans hg, h4⟩⟩
theorem KnO.gr {base : Nat} {w w' : World} {k : Value} {v : List Nat} {m : List (Nat × Nat)} (h : KnO base w k v m) (g : Gr w w') : KnO base w' k v m := by
  obtain ⟨vv, mv, e, h1, h2⟩ := h
  exact ⟨vv, mv, e, kown_gr h1 g, kown_gr h2 g⟩
theorem KnO.less {base base' : Nat} {w : World} {k : Value} {v : List Nat} {m : List (Nat × Nat)} (h : KnO base w k v m) (hb : base' ≤ base) : KnO base' w k v m := by
  obtain ⟨vv, mv, e, h1, h2⟩ := h
  exact ⟨vv, mv, e, own_less h1 hb, own_less h2 hb⟩
/-- what build answers -/
def frmK (base : Nat) (w : World) (e : Ending) (D : DS) : Prop :=
  ∃ k r, e = .returned (.tuple #[k, .int .i64 r]) ∧ (((formM D).length ≤ 60 ∧ r = 0 ∧ KnO base w k (formV D) (formM D)) ∨ (60 < (formM D).length ∧ r = 2 ∧ KnO base w k [] []))
theorem frmK.less {base base' : Nat} {w : World} {e : Ending} {D : DS} (h : frmK base w e D) (hb : base' ≤ base) : frmK base' w e D := by
  obtain ⟨k, r, h1, ⟨h2, h3, h4⟩ | ⟨h2, h3, h4⟩⟩ := h
  · exact ⟨k, r, h1, .inl ⟨h2, h3, h4.less hb⟩⟩
  · exact ⟨k, r, h1, .inr ⟨h2, h3, h4.less hb⟩⟩
theorem frmK.congr {base : Nat} {w : World} {e : Ending} {D E : DS} (h : frmK base w e D) (hE : EqD D E) : frmK base w e E := by
  obtain ⟨h1, h2⟩ := form_congr hE
  unfold frmK
  rw [← h1, ← h2]
  exact h
theorem know_zero : (Try.prog.info? 35).bind (·.zero) = some (.agg #[.slice none 0 0, .slice none 0 0]) := by kernel_rfl
theorem load_know (w : World) (g : Nat) (x y : Value) (h0 : w.cell? ⟨g, 0, none⟩ = some x) (h1 : w.cell? ⟨g, 1, none⟩ = some y) : (loadVar 35 ⟨g, 0, none⟩).run Try.prog w = .ok (.agg #[x, y]) w := by
  simp [go_sem, h0, h1]
theorem res_know {fn : Func} {p u : Tmp} (h : fn.results = #[.cell p 35, .tmp u]) (tmps : Array Value) (w : World) (g : Nat) (x y r : Value) (hp : tmps.getD p undef = .pointer (some ⟨g, 0, none⟩)) (hu : tmps.getD u undef = r) (h0 : w.cell? ⟨g, 0, none⟩ = some x) (h1 : w.cell? ⟨g, 1, none⟩ = some y) :
    (results fn tmps).run Try.prog w = .ok (.tuple #[.agg #[x, y], r]) w := by
  have hp' : tmps[p]?.getD undef = .pointer (some ⟨g, 0, none⟩) := by simpa using hp
  have hu' : tmps[u]?.getD undef = r := by simpa using hu
  simp [results, h, hp', hu', asAddr, load_know w g x y h0 h1]
/-- two cells of a block written -/
theorem put2 {w : World} {g : Nat} {o0 o1 : Value} (h0 : w.cell? ⟨g, 0, none⟩ = some o0) (h1 : w.cell? ⟨g, 1, none⟩ = some o1) (x y : Value) :
    ((w.setCell ⟨g, 0, none⟩ x).setCell ⟨g, 1, none⟩ y).cell? ⟨g, 0, none⟩ = some x ∧ ((w.setCell ⟨g, 0, none⟩ x).setCell ⟨g, 1, none⟩ y).cell? ⟨g, 1, none⟩ = some y := by
  constructor <;> simp [go_sem, h0, h1]
/-- the loop's state -/
def BldAt (w4 : World) (g0 : Nat) (v0 : List Nat) (pre : List (Nat × Nat)) (mv : Value) (v' : List Nat) (m : List (Nat × Nat)) (wr : World) : Prop :=
  Below g0 w4 wr ∧ wr.heap[g0]? = some (.cells (cArr v') 108 (0, 0)) ∧ wr.heap[g0 + 1]? = some (.cells #[.slice none 0 0, .slice none 0 0] 35 (0, 0)) ∧ wr.ownsRow (g0 + 2) 26 2 mv m.length (flat (pairs m)) ∧ BInv v0 pre v' m
theorem BldAt.size {w4 wr : World} {g0 : Nat} {v0 v' : List Nat} {pre m : List (Nat × Nat)} {mv : Value} (h : BldAt w4 g0 v0 pre mv v' m wr) : g0 + 2 ≤ wr.heap.size := by
  have := (Array.getElem?_eq_some_iff.1 h.2.2.1).1
  omega
theorem BldAt.alloc {w4 wr : World} {g0 : Nat} {v0 v' : List Nat} {pre m : List (Nat × Nat)} {mv : Value} (h : BldAt w4 g0 v0 pre mv v' m wr) (o : Obj) : BldAt w4 g0 v0 pre mv v' m (wr.alloc o) := by
  have hs := h.size
  obtain ⟨h1, h2, h3, h4, h5⟩ := h
  exact ⟨h1.alloc (by omega) o, (Below.heap_alloc _ _ _ (by omega)).trans h2, (Below.heap_alloc _ _ _ (by omega)).trans h3, h4.alloc o, h5⟩
theorem BldAt.inv {w4 wr : World} {g0 : Nat} {v0 v' : List Nat} {pre pre' m : List (Nat × Nat)} {mv : Value} (h : BldAt w4 g0 v0 pre mv v' m wr) (k : BInv v0 pre' v' m) : BldAt w4 g0 v0 pre' mv v' m wr := ⟨h.1, h.2.1, h.2.2.1, h.2.2.2.1, k⟩
theorem BldAt.up {w4 wr : World} {g0 : Nat} {v0 v' : List Nat} {pre pre' m : List (Nat × Nat)} {mv : Value} {s n : Nat} (h : BldAt w4 g0 v0 pre mv v' m wr) (hs : s < 5) (k : BInv v0 pre' (setC v' s n) m) : BldAt w4 g0 v0 pre' mv (setC v' s n) m (wr.setCell ⟨g0, s, none⟩ (.int .i64 (n : Nat))) := by
  obtain ⟨h1, h2, h3, h4, h5⟩ := h
  refine ⟨h1.setCell (Nat.le_refl _) _, ?_, (Below.heap_setCell _ _ _ _ (by simp)).trans h3, ?_, k⟩
  · rw [hsc h2, cArr_setC v' s n hs]
  · refine h4.kept (gset wr g0 s _) ?_
    cases e : mv.ownBlock with
    | none => exact .inl rfl
    | some b => exact .inr (fun e' => by have := (h4.lt b e).1; have := Option.some.inj e'; omega)
theorem BldAt.more {w4 wr w5 : World} {g0 : Nat} {v0 v' : List Nat} {pre pre' m m' : List (Nat × Nat)} {mv mv' : Value} (h : BldAt w4 g0 v0 pre mv v' m wr) (hg : wr.grownBy w5 mv.ownBlock) (ho : w5.ownsRow (g0 + 2) 26 2 mv' m'.length (flat (pairs m'))) (k : BInv v0 pre' v' m') : BldAt w4 g0 v0 pre' mv' v' m' w5 := by
  have hs := h.size
  obtain ⟨h1, h2, h3, h4, h5⟩ := h
  have hb : ∀ b, mv.ownBlock = some b → g0 + 2 ≤ b := fun b e => (h4.lt b e).1
  refine ⟨h1.grown hg (by omega) (fun b e => by have := hb b e; omega), ?_, ?_, ho, k⟩
  · exact (hg.block g0 (by omega) (fun e => by have := hb _ e.symm; omega)).trans h2
  · exact (hg.block (g0 + 1) (by omega) (fun e => by have := hb _ e.symm; omega)).trans h3
set_option maxHeartbeats 600000 in
set_option maxRecDepth 100000 in
theorem build_any (v : List Nat) (L : List (Nat × Nat)) (lv : Value) (w : World) (base : Nat) (hv : ∀ s, s < 5 → cv v s ≤ 1000) (hL : ∀ d ∈ L, inR d.1 d.2) (hlen : L.length ≤ 1000)
    (ho : w.ownsRow base 26 2 lv L.length (flat (pairs L))) (hbase : base ≤ w.heap.size) :
    Calls Try.prog 63 #[.agg (cArr v), lv] w fun e w' => frmK w.heap.size w' e (upD v L) ∧ Below base w w' := by
  obtain ⟨i0, hi0, hz0, hz1, hz2⟩ := info_parts ccd_info
  have HS0 := Lib.hid (sort_own L lv)
  have HC0 := Lib.hid (fun l => compact_own l lv)
  have HT0 := Lib.hid trim_any
  have hlv : ∀ b, lv.ownBlock = some b → base ≤ b ∧ b < w.heap.size := ho.lt
  have A0 : Hid (((w.alloc (.cells (cArr v) 108)).alloc (.cells #[.slice none 0 0, .slice none 0 0] 35)).heap[w.heap.size]? = some (.cells (cArr v) 108 (0, 0)) ∧ ((w.alloc (.cells (cArr v) 108)).alloc (.cells #[.slice none 0 0, .slice none 0 0] 35)).heap[w.heap.size + 1]? = some (.cells #[.slice none 0 0, .slice none 0 0] 35 (0, 0))) := ⟨(al_old _ _ _ (by simp)).trans (al_new _ _ _ rfl), al_new _ _ _ (by simp)⟩
  have G0 : Hid (Below w.heap.size w ((w.alloc (.cells (cArr v) 108)).alloc (.cells #[.slice none 0 0, .slice none 0 0] 35))) := ((Gr.refl w).alloc _).alloc _
  have O0 := Lib.hid ((ho.alloc (.cells (cArr v) 108)).alloc (.cells #[.slice none 0 0, .slice none 0 0] 35))
  have HLV := Lib.hid hlv
  have HL := Lib.hid hL
  obtain ⟨la, lc, hle, hlc⟩ := own_formD ho
  clear ho hL hlv
  have HLE := Lib.hid hle
  subst hle
  go_enter Try.func63, Try.ntmps63
  go_wp2_with (first
    | (refine Go.Great.wpList_allocTo rfl _ rfl _ _ (run_alloc_zero know_zero _ _ rfl _) ?_)
    | fail)
  generalize ((w.alloc (.cells (cArr v) 108)).alloc (.cells #[.slice none 0 0, .slice none 0 0] 35)) = w2 at *
  go_wp2_with (go_at_call 93; refine (HS0.out w2 base hlen O0.out).mono ?_; rintro e w3 ⟨rfl, l', hp, hs, ho3, hg3⟩; have HO3 := Lib.hid ho3; have HG3 := Lib.hid hg3; have HP := Lib.hid hp; have HSo := Lib.hid hs; have hll : l'.length = L.length := hp.length_eq; clear ho3 hg3 hp hs HS0 O0)
  have HDM : Hid (∀ d, d ∈ ddT l' l'.length ↔ d ∈ L) := fun d => by rw [ddT_all_mem]; exact HP.out.mem_iff
  have HDS : Hid ((ddT l' l'.length).Pairwise ltD) := ddT_sort HSo.out (Nat.le_refl _)
  have hdl : (ddT l' l'.length).length ≤ 1000 := Nat.le_trans (ddT_len _ _) (by omega)
  have HC1 := Lib.hid (HC0.out l' w3 base (by omega) HO3.out)
  generalize ddT l' l'.length = dd at *
  clear HC0 HSo
  go_wp2_with (go_at_call 95; refine HC1.out.mono ?_; rintro e w4 ⟨u, rfl, hub, ho4, hg4⟩; obtain ⟨ua, uc, rfl, huc⟩ := own_formD ho4; have HO4 := Lib.hid ho4; have HG4 := Lib.hid hg4; have HUB := Lib.hid hub; clear ho4 hg4 hub HC1)
  have G4 : Hid (Below base w w4) := (((Below.mono G0.out hbase).grown HG3.out (Nat.le_trans hbase G0.out.size) (fun b e => (HLV.out b e).1)).grown HG4.out (Nat.le_trans hbase (Nat.le_trans G0.out.size HG3.out.size)) (fun b e => (HLV.out b e).1))
  have hsz2 : w.heap.size + 2 ≤ w2.heap.size := by have := (Array.getElem?_eq_some_iff.1 A0.out.2).1; omega
  have A4 : Hid (BldAt w4 w.heap.size v (dd.take 0) (.slice none 0 0) v [] w4) := by
    refine ⟨Below.refl _ _, ?_, ?_, World.ownsRow_nil _ _ _ _, BInv.start v hv⟩
    · refine (HG4.out.block _ (Nat.lt_of_lt_of_le (by omega) HG3.out.size) (fun e => ?_)).trans ((HG3.out.block _ (by omega) (fun e => ?_)).trans A0.out.1)
      · have := (HLV.out _ e.symm).2; omega
      · have := (HLV.out _ e.symm).2; omega
    · refine (HG4.out.block _ (Nat.lt_of_lt_of_le (by omega) HG3.out.size) (fun e => ?_)).trans ((HG3.out.block _ (by omega) (fun e => ?_)).trans A0.out.2)
      · have := (HLV.out _ e.symm).2; omega
      · have := (HLV.out _ e.symm).2; omega
  have HU : Hid (∀ (i s c : Nat), dd[i]? = some (s, c) → ∃ g, ua = some ⟨g, 0, none⟩ ∧ ∀ wr, Below w.heap.size w4 wr → wr.cell? ⟨g, i * 2, none⟩ = some (.int .i64 (s : Int)) ∧ wr.cell? ⟨g, i * 2 + 1, none⟩ = some (.int .i64 (c : Int))) := by
    intro i s c hd
    obtain ⟨hxl, ⟨e1, hn⟩ | ⟨g, cap, cur, e1, hbg, hg, hnc, hcm, hcs, htake⟩⟩ := HO4.out
    · rw [List.eq_nil_of_length_eq_zero hn] at hd; simp at hd
    · injection e1 with ea eb ec
      subst ea ec
      refine ⟨g, rfl, fun wr hb => ?_⟩
      have hgl : g < w.heap.size := (HLV.out g (by rw [← HUB.out]; rfl)).2
      have hr := RowD.cell (e := 26) (w := w4) (g := g) (cap := uc) (c := dd) ⟨hnc, cur, hg, hcs, htake⟩ hd
      exact ⟨(Below.cell hb hgl).trans hr.1, (Below.cell hb hgl).trans hr.2.1⟩
  have HF : Hid (∀ v' m, BInv v (dd.take dd.length) v' m → formV (upD v L) = trimL (five v') ∧ formM (upD v L) = m) := by
    intro v' m hb
    rw [List.take_length] at hb
    have e : upD v L = upD v dd := upD_congr fun d => (HDM.out d).symm
    rw [e]; exact hb.form
  have hdlI : (dd.length : Int) ≤ 1000 := by omega
  clear A0 G0 HG3 HG4 HO3 HO4 HUB HP hll hlc huc HLV HLE
  go_wp2
  generalize hg0 : w.heap.size = g0 at *
  go_loopg [6, 15] dd.length (fun gh mv ix wr => ∃ (i : Nat) (v' : List Nat) (m : List (Nat × Nat)), i ≤ dd.length ∧ dd.length - i ≤ gh ∧ ix = .int .i64 (i : Int) ∧ BldAt w4 g0 v (dd.take i) mv v' m wr)
  case atStart => exact ⟨0, v, [], by omega, by omega, rfl, A4.out⟩
  case round =>
    clear A4
    obtain ⟨i, v', m, hi, hgh, rfl, hat⟩ := hrel
    have HAt := Lib.hid hat
    obtain ⟨ma, mc, hme, hmc⟩ := own_formD hat.2.2.2.1
    subst hme
    have hml : m.length ≤ 1000 := by have := hat.2.2.2.2.len; simp at this; omega
    have hmlI : (m.length : Int) ≤ 1000 := by omega
    by_cases hil : i < dd.length
    · obtain ⟨⟨s, c⟩, hd⟩ : ∃ d, dd[i]? = some d := ⟨_, List.getElem?_eq_getElem hil⟩
      obtain ⟨g, rfl, hcell⟩ := HU.out i s c hd
      obtain ⟨q1, q2⟩ := hcell wr hat.1
      have hr : Hid (inR s c) := HL.out _ ((HDM.out _).1 (List.mem_of_getElem? hd))
      have hs5 : s < 5 := hr.out.1
      have hc1000 : c ≤ 1000 := hr.out.2.2
      have hiI : (i : Int) < (dd.length : Int) := by omega
      have HB := Lib.hid (sorted_before HDS.out hd)
      have HTk := Lib.hid (take_snoc hd)
      have hcv := cell_cArr hat.2.1 hs5
      have hfz : wr.frozen? ⟨g0, s, none⟩ = false := by simp [World.frozen?, hat.2.1]
      have hvl := hat.2.2.2.2.le s hs5
      have hsz := hat.size
      have hg0lt : g0 < wr.heap.size := by omega
      have hg0ne : ¬ g0 = wr.heap.size := by omega
      have HI := Lib.hid hat.2.2.2.2
      have hs5I : (s : Int) < 5 := by omega
      have hcI : (c : Int) ≤ 1000 := by omega
      clear hat hcell hd hsz
      generalize hn : cv v' s = n at *
      have HN := Lib.hid hn
      clear hn
      have hnI : (n : Int) ≤ 1000 := by omega
      by_cases hA : c = n + 1
      · subst hA
        have HX : Hid (BldAt w4 g0 v (dd.take (i + 1)) (.slice ma m.length mc) (setC v' s (n + 1)) m ((wr.setCell ⟨g0, s, none⟩ (.int .i64 ((n + 1 : Nat) : Int))).alloc (.cells #[.int .i64 (s : Int), .int .i64 ((n + 1 : Nat) : Int)] 26))) := by
          rw [HTk.out]
          exact (HAt.out.up hs5 (HI.out.up HB.out hr.out (by rw [HN.out]))).alloc _
        go_wp2
        go_roundg (dd.length - (i + 1))
        case measure => omega
        case rel => exact ⟨i + 1, _, m, by omega, Nat.le_refl _, by go_num, HX.out⟩
      · by_cases hB : n < c
        · have hAI : ¬ (c : Int) = (n : Int) + 1 := by omega
          have hBI : (n : Int) < (c : Int) := by omega
          have HI2 := Lib.hid (HI.out.more HB.out hr.out (by rw [HN.out]; omega))
          have HA2 := Lib.hid ((HAt.out.alloc (.cells #[.int .i64 (s : Int), .int .i64 (c : Int)] 26)).alloc (.cells #[.int .i64 (s : Int), .int .i64 (c : Int)] 26))
          have HFl : Hid (flat (pairs m) ++ [.int .i64 (s : Int), .int .i64 (c : Int)] = flat (pairs (m ++ [(s, c)]))) := by show _ = _; simp [pairs, flat]
          go_wp2_with (at_builtin; refine wpList_append_own _ rfl (.tmp 38) (.tmp 40) 33 rfl (g0 + 2) 26 i0 _ 2 16 Try.underlying33 hi0 hz0 hz1 hz2 rfl (by omega) _ _ _ rfl HA2.out.2.2.2.1 ⟨wr.heap.size + 1, 0, none⟩ 1 1 [.int .i64 (s : Int), .int .i64 (c : Int)] rfl rfl (by have := new2 (wr.alloc (.cells #[.int .i64 (s : Int), .int .i64 (c : Int)] 26)) s c 26; rwa [World.size_alloc] at this) (one2 _ _) (by simp only [maxLen]; omega) (by omega) HA2.out.size ?_; intro v1 w5 hown hg1 _)
          have HX : Hid (BldAt w4 g0 v (dd.take (i + 1)) v1 v' (m ++ [(s, c)]) w5) := by
            rw [HTk.out]
            refine HA2.out.more hg1 ?_ HI2.out
            rw [← HFl.out, List.length_append]
            exact hown
          go_roundg (dd.length - (i + 1))
          case measure => omega
          case rel => exact ⟨i + 1, v', _, by omega, Nat.le_refl _, by go_num, HX.out⟩
        · have HX : Hid (BldAt w4 g0 v (dd.take (i + 1)) (.slice ma m.length mc) v' m (wr.alloc (.cells #[.int .i64 (s : Int), .int .i64 (c : Int)] 26))) := by
            rw [HTk.out]
            exact (HAt.out.alloc _).inv (HI.out.old hr.out (by rw [HN.out]; omega))
          have hAI : ¬ (c : Int) = (n : Int) + 1 := by omega
          have hBI : ¬ (n : Int) < (c : Int) := by omega
          go_wp2
          go_roundg (dd.length - (i + 1))
          case measure => omega
          case rel => exact ⟨i + 1, v', m, by omega, Nat.le_refl _, by go_num, HX.out⟩
    · obtain rfl : i = dd.length := by omega
      obtain ⟨f1, f2⟩ := HF.out v' m hat.2.2.2.2
      have hk0 : wr.cell? ⟨g0 + 1, 0, none⟩ = some (.slice none 0 0) := by simp [World.cell?, hat.2.2.1]
      have hk1 : wr.cell? ⟨g0 + 1, 1, none⟩ = some (.slice none 0 0) := by simp [World.cell?, hat.2.2.1]
      have hf0 : wr.frozen? ⟨g0 + 1, 0, none⟩ = false := by simp [World.frozen?, hat.2.2.1]
      have hf1 : wr.frozen? ⟨g0 + 1, 1, none⟩ = false := by simp [World.frozen?, hat.2.2.1]
      have HB1 := Lib.hid hat.2.1
      have HV := Lib.hid hat.2.2.2.2.le
      have HGw : Hid (Below base w wr) := Below.trans G4.out (Below.mono hat.1 (by omega))
      have hsz := hat.size
      have hgb : base ≤ g0 + 1 := by omega
      have hgl1 : g0 + 1 < wr.heap.size := by omega
      have HO := Lib.hid hat.2.2.2.1
      have HF1 := Lib.hid f1
      have HF2 := Lib.hid f2
      clear hat f1 f2
      by_cases h60 : 60 < m.length
      · have h60I : (60 : Int) < (m.length : Int) := by omega
        go_wp2
        obtain ⟨p0, p1⟩ := put2 hk0 hk1 (.slice none 0 0) (.slice none 0 0)
        have HW := Lib.hid ((HGw.out.setCell (p := ⟨g0 + 1, 0, none⟩) hgb (.slice none 0 0)).setCell (p := ⟨g0 + 1, 1, none⟩) hgb (.slice none 0 0))
        generalize (wr.setCell ⟨g0 + 1, 0, none⟩ (.slice none 0 0)).setCell ⟨g0 + 1, 1, none⟩ (.slice none 0 0) = w7 at *
        refine bodyPost_ret (v := .tuple #[.agg #[.slice none 0 0, .slice none 0 0], .int .i64 2]) (res_know Try.results63 _ _ (g0 + 1) _ _ _ rfl rfl p0 p1) rfl ⟨?_, HW.out⟩
        exact ⟨_, 2, rfl, .inr ⟨by rw [HF2.out]; exact h60, rfl, _, _, rfl, World.ownsRow_nil _ _ _ _, World.ownsRow_nil _ _ _ _⟩⟩
      · have h60I : ¬ (60 : Int) < (m.length : Int) := by omega
        have f3 := Lib.hid (counts_cArr v')
        have HT := Lib.hid (HT0.out v' wr HV.out)
        clear HT0 HAt HV
        generalize cArr v' = A at *
        go_wp2_with (refine Go.wpList_load_row rfl 108 (.tmp 2) rfl g0 rfl 108 A (0, 0) _ HB1.out Try.underlying108 rfl f3.out ?_)
        refine HT.out.mono ?_
        rintro e w6 ⟨u, rfl, ho6, g6⟩
        obtain ⟨xa, xc, hux, -⟩ := own_formD ho6
        subst hux
        have hk60 := (g6.cells.1 (g0 + 1) 0 hgl1).trans hk0
        have hk61 := (g6.cells.1 (g0 + 1) 1 hgl1).trans hk1
        have hf60 := (g6.cells.2 (g0 + 1) 0 hgl1).trans hf0
        have hf61 := (g6.cells.2 (g0 + 1) 1 hgl1).trans hf1
        have hgl6 := Nat.lt_of_lt_of_le hgl1 g6.le
        have HO6 := Lib.hid ho6
        have G6 := Lib.hid g6
        clear ho6 g6 hk0 hk1 hf0 hf1 HB1 f3 HT
        generalize hTL : trimL (five v') = TL at *
        go_wp2_with fail
        obtain ⟨p0, p1⟩ := put2 hk60 hk61 (.slice xa TL.length xc) (.slice ma m.length mc)
        have HW := Lib.hid (((Below.trans HGw.out (Below.mono G6.out (by have := HGw.out.size; omega))).setCell (p := ⟨g0 + 1, 0, none⟩) hgb (.slice xa TL.length xc)).setCell (p := ⟨g0 + 1, 1, none⟩) hgb (.slice ma m.length mc))
        have HK1 : Hid (((w6.setCell ⟨g0 + 1, 0, none⟩ (.slice xa TL.length xc)).setCell ⟨g0 + 1, 1, none⟩ (.slice ma m.length mc)).ownsRow g0 3 1 (.slice xa TL.length xc) TL.length (flatI TL)) := by
          have h1 : ∀ b, (Value.slice xa TL.length xc).ownBlock = some b → g0 + 1 < b := fun b e => Nat.lt_of_lt_of_le hgl1 (HO6.out.lt b e).1
          have h2 : (Value.slice xa TL.length xc).ownBlock = none ∨ (Value.slice xa TL.length xc).ownBlock ≠ some (g0 + 1) := by
            cases e : (Value.slice xa TL.length xc).ownBlock with
            | none => exact .inl rfl
            | some b => exact .inr (fun e' => by have := h1 b e; have := Option.some.inj e'; omega)
          exact own_less ((HO6.out.kept (gset w6 (g0 + 1) 0 (.slice xa TL.length xc)) h2).kept (gset _ (g0 + 1) 1 _) h2) (by omega)
        have HK2 : Hid (((w6.setCell ⟨g0 + 1, 0, none⟩ (.slice xa TL.length xc)).setCell ⟨g0 + 1, 1, none⟩ (.slice ma m.length mc)).ownsRow g0 26 2 (.slice ma m.length mc) m.length (flat (pairs m))) := by
          have h1 : ∀ b, (Value.slice ma m.length mc).ownBlock = some b → g0 + 1 < b := fun b e => (HO.out.lt b e).1
          have h2 : (Value.slice ma m.length mc).ownBlock = none ∨ (Value.slice ma m.length mc).ownBlock ≠ some (g0 + 1) := by
            cases e : (Value.slice ma m.length mc).ownBlock with
            | none => exact .inl rfl
            | some b => exact .inr (fun e' => by have := h1 b e; have := Option.some.inj e'; omega)
          exact own_less (((kown_gr HO.out G6.out).kept (gset w6 (g0 + 1) 0 (.slice xa TL.length xc)) h2).kept (gset _ (g0 + 1) 1 _) h2) (by omega)
        generalize (w6.setCell ⟨g0 + 1, 0, none⟩ (.slice xa TL.length xc)).setCell ⟨g0 + 1, 1, none⟩ (.slice ma m.length mc) = w7 at *
        refine bodyPost_ret (v := .tuple #[.agg #[(.slice xa TL.length xc), .slice ma m.length mc], .int .i64 0]) (res_know Try.results63 _ _ (g0 + 1) _ _ _ rfl rfl p0 p1) rfl ⟨?_, HW.out⟩
        refine ⟨_, 0, rfl, .inl ⟨by rw [HF2.out]; omega, rfl, _, _, rfl, ?_, ?_⟩⟩
        · rw [hg0, HF1.out]; exact HK1.out
        · rw [hg0, HF2.out]; exact HK2.out
end Go.Proofs.Ytghjfakellaecaa
