/- know.common: the dots of a list that are in a set. -/
import Derived.Test.YtghjfakellaecaaKnL
set_option linter.unusedVariables false
set_option linter.unusedSimpArgs false
namespace Rm
def comL (l : List (Nat × Nat)) (v : List Nat) (m : List (Nat × Nat)) : List (Nat × Nat) := l.filter fun d => memB v m d.1 d.2
theorem comL_snoc {l : List (Nat × Nat)} {v : List Nat} {m : List (Nat × Nat)} {i s c : Nat} (h : l[i]? = some (s, c)) : comL (l.take (i + 1)) v m = if memB v m s c then comL (l.take i) v m ++ [(s, c)] else comL (l.take i) v m := by
  unfold comL
  rw [take_snoc h, List.filter_append]
  by_cases e : memB v m s c = true
  · simp [e]
  · simp [e]
theorem comL_len (l : List (Nat × Nat)) (v : List Nat) (m : List (Nat × Nat)) (i : Nat) : (comL (l.take i) v m).length ≤ i := by
  unfold comL
  exact Nat.le_trans (List.length_filter_le _ _) (by simp; omega)
end Rm
namespace Go.Proofs.Ytghjfakellaecaa
open Go.RowKit Rm
/-- a list of dots that owns its row -/
def ComAt (base : Nat) (L : List (Nat × Nat)) (p1 : Option Addr) (p2 p3 : Nat) (w : World) : Prop := p2 = L.length ∧ w.ownsRow base 26 2 (.slice p1 p2 p3) L.length (flat (pairs L))
set_option maxHeartbeats 2000000 in
set_option maxRecDepth 100000 in
theorem common_any (lv : Value) (l : List (Nat × Nat)) (k : Value) (v : List Nat) (m : List (Nat × Nat)) (w : World) (hr : Rd2 w lv (pairs l)) (hll : l.length ≤ 1000) (hd : ∀ d ∈ l, inR d.1 d.2) (hk : KnR w k (ints v) (pairs m)) (ho : OkV v m) (hm : m.length ≤ 60) :
    Calls Try.prog 62 #[lv, k] w fun e w' => ∃ p1 p2 p3, e = .returned (.slice p1 p2 p3) ∧ Gr w w' ∧ ComAt w.heap.size (comL l v m) p1 p2 p3 w' := by
  obtain ⟨i0, hi0, hz0, hz1, hz2⟩ := info_parts ccd_info
  have HH : Hid (∀ s c W, inR s c → Gr w W → Calls Try.prog 92 #[k, .agg #[.int .i64 (s : Int), .int .i64 (c : Int)]] W fun e w' => e = .returned (.bool (memB v m s c)) ∧ Gr W w') := fun s c W hd g => khas_any k v m s c W (hk.gr g) ho hm hd
  obtain ⟨vv, mv, rfl, r1, r2, r3⟩ := hk
  obtain ⟨va, vc, rfl, -⟩ := id r1
  obtain ⟨ma, mc, rfl, -⟩ := id r2
  obtain ⟨a, c, rfl, hc, hx⟩ := hr
  have HX := Lib.hid hx
  have HD := Lib.hid hd
  have HPL : (pairs l).length = l.length := pairs_len l
  generalize hN1 : (ints v).length = N1 at *
  generalize hN2 : (pairs m).length = N2 at *
  rw [HPL] at hc
  rw [HPL]
  have hlI : (l.length : Int) ≤ 1000 := by omega
  have G1 := Lib.hid ((Gr.refl w).alloc (.cells #[.slice va N1 vc, .slice ma N2 mc] 35))
  have B1 : Hid ((w.alloc (.cells #[.slice va N1 vc, .slice ma N2 mc] 35)).heap[w.heap.size]? = some (.cells #[.slice va N1 vc, .slice ma N2 mc] 35 (0, 0))) := al_new _ _ _ rfl
  have S1 : (w.alloc (.cells #[.slice va N1 vc, .slice ma N2 mc] 35)).heap.size = w.heap.size + 1 := by simp
  have HS1 := Lib.hid S1
  clear hx hd r1 r2 r3 ho hN1 hN2 S1
  go_enter Try.func62, Try.ntmps62
  go_wp2_with fail
  generalize w.alloc (.cells #[.slice va N1 vc, .slice ma N2 mc] 35) = w1 at *
  go_loopg [5, 10] l.length (fun gh rv ix wr => ∃ i : Nat, i ≤ l.length ∧ l.length - i ≤ gh ∧ ix = .int .i64 (i : Int) ∧ Gr w1 wr ∧ wr.ownsRow (w.heap.size + 1) 26 2 rv (comL (l.take i) v m).length (flat (pairs (comL (l.take i) v m))))
  case atStart => exact ⟨0, by omega, by omega, rfl, Gr.refl _, World.ownsRow_nil _ _ _ _⟩
  case round =>
    obtain ⟨i, hi, hgh, rfl, gr, hown⟩ := hrel
    obtain ⟨ra, rc, hre, hrc⟩ := own_formD hown
    subst hre
    have hrl := comL_len l v m i
    have hrlI : ((comL (l.take i) v m).length : Int) ≤ 1000 := by omega
    have GR := Lib.hid gr
    have HO := Lib.hid hown
    have B2 := (Below.block gr _ (Array.getElem?_eq_some_iff.1 B1.out).1).trans B1.out
    have hsz : w.heap.size + 1 ≤ wr.heap.size := by rw [← HS1.out]; exact gr.le
    clear gr hown
    by_cases hil : i < l.length
    · obtain ⟨⟨s, cc⟩, hd⟩ : ∃ d, l[i]? = some d := ⟨_, List.getElem?_eq_getElem hil⟩
      obtain ⟨b, off, hab, hb, hcell⟩ := HX.out (by intro e; rw [e] at HPL; simp at HPL; omega)
      subst hab
      have G01 := Lib.hid (G1.out.trans GR.out)
      have q1 := (G01.out.cells.1 b (off + i * 2) hb).trans (hcell i _ (pairs_at hd)).1
      have q2 := (G01.out.cells.1 b (off + i * 2 + 1) hb).trans (hcell i _ (pairs_at hd)).2
      simp only at q1 q2
      have hin : Hid (inR s cc) := HD.out _ (List.mem_of_getElem? hd)
      have HC := Lib.hid (comL_snoc (v := v) (m := m) hd)
      have HH1 := Lib.hid (HH.out s cc (wr.alloc (.cells #[.int .i64 (s : Int), .int .i64 (cc : Int)] 26)) hin.out (G01.out.alloc _))
      have c0 := kc0 B2
      have c1 := kc1 B2
      have hg0 : w.heap.size < wr.heap.size := by omega
      have hiI : (i : Int) < (l.length : Int) := by omega
      have T0 := Lib.hid (Two.new wr s cc 26)
      have A0 := Lib.hid ((Gr.refl wr).alloc (.cells #[.int .i64 (s : Int), .int .i64 (cc : Int)] 26))
      have HFl : Hid (∀ L : List (Nat × Nat), flat (pairs L) ++ [.int .i64 (s : Int), .int .i64 (cc : Int)] = flat (pairs (L ++ [(s, cc)]))) := fun L => by simp [pairs, flat]
      clear hd hcell HX HD HH B2
      generalize comL (l.take i) v m = L at *
      cases hq : memB v m s cc
      · rw [hq] at HH1 HC
        go_wp2_with (go_at_call 92; refine HH1.out.mono ?_; rintro e w3 ⟨rfl, g3⟩; have G3 := Lib.hid (A0.out.trans g3); clear g3)
        go_roundg (l.length - (i + 1))
        case measure => omega
        case rel => exact ⟨i + 1, by omega, Nat.le_refl _, by go_num, GR.out.trans G3.out, by rw [HC.out]; exact kown_gr HO.out G3.out⟩
      · rw [hq] at HH1 HC
        go_wp2_with (first
          | (go_at_call 92; refine HH1.out.mono ?_; rintro e w3 ⟨rfl, g3⟩; have G3 := Lib.hid (A0.out.trans g3); obtain ⟨t0, t1, t2⟩ := T0.out.gr g3; have HO3 := Lib.hid (kown_gr HO.out G3.out); have hsz3 := Nat.le_trans hsz G3.out.le; clear g3 q1 q2 c0 c1)
          | (at_builtin; refine wpList_append_own _ rfl (.tmp 17) (.tmp 19) 33 rfl (w.heap.size + 1) 26 i0 _ 2 16 Try.underlying33 hi0 hz0 hz1 hz2 rfl (by omega) _ _ _ rfl (HO3.out.alloc _) ⟨w3.heap.size, 0, none⟩ 1 1 [.int .i64 (s : Int), .int .i64 (cc : Int)] rfl rfl (new2 _ _ _ _) (one2 _ _) (by simp only [maxLen]; omega) (by omega) (by simp; omega) ?_; intro v1 w5 hown hg1 _))
        have HO5 : Hid (w5.ownsRow (w.heap.size + 1) 26 2 v1 (L ++ [(s, cc)]).length (flat (pairs (L ++ [(s, cc)])))) := by
          rw [← HFl.out, List.length_append]; exact hown
        have G5 : Hid (Gr w1 w5) := ((GR.out.trans G3.out).alloc _).grown hg1 (fun q e => by rw [HS1.out]; exact (HO3.out.lt q e).1)
        go_roundg (l.length - (i + 1))
        case measure => omega
        case rel => exact ⟨i + 1, by omega, Nat.le_refl _, by go_num, G5.out, by rw [HC.out]; exact HO5.out⟩
    · obtain rfl : i = l.length := by omega
      go_wp2
      go_ret
      refine ⟨_, _, _, rfl, G1.out.trans GR.out, ?_⟩
      have := HO.out
      rw [List.take_length] at this ⊢
      exact ⟨rfl, own_less this (by omega)⟩
end Go.Proofs.Ytghjfakellaecaa
