/- Package span by masks, as far as SpanOf reaches. -/
import Derived.Test.YtphcjjhfgpdhcabSpanC
namespace Rm
open Go Go.RowKit
def chkS2 (l r : List (Int × Int)) : Int := if chkS l == 0 then chkS r else chkS l
theorem sbne_of {a : Int} (h : (a == 0) = true) : (a != 0) = false := by simp [bne, h]
theorem sbne_of' {a : Int} (h : (a == 0) = false) : (a != 0) = true := by simp [bne, h]
theorem chkGo_valid : ∀ (l : List (Int × Int)) (last : Int), -1 ≤ last → chkGo last l = 0 → ∃ L, l = pairs L ∧ VF (last + 1).toNat L
  | [], _, _, _ => ⟨[], rfl, trivial⟩
  | p :: l, last, hl, h => by
    unfold chkGo at h
    split at h
    · omega
    · split at h
      · omega
      · rename_i h1 h2
        obtain ⟨L, rfl, hv⟩ := chkGo_valid l p.2 (by omega) h
        refine ⟨(p.1.toNat, p.2.toNat) :: L, ?_, ?_⟩
        · simp only [pairs, List.map_cons, List.cons.injEq, and_true]
          ext
          · simp only; omega
          · simp only; omega
        · refine ⟨by simp only; omega, by simp only; omega, by simp only; omega, ?_⟩
          have e : (p.2 + 1).toNat = p.2.toNat + 1 := by omega
          rw [← e]
          exact hv
theorem valid_of {l : List (Int × Int)} (h : chkS l = 0) : ∃ L, l = pairs L ∧ VF 0 L := by
  unfold chkS at h
  split at h
  · omega
  · exact chkGo_valid l (-1) (by omega) h
theorem chkGo_of : ∀ (L : List (Nat × Nat)) (lo : Nat) (last : Int), last < lo → VF lo L → chkGo last (pairs L) = 0
  | [], _, _, _, _ => rfl
  | p :: L, lo, last, hl, h => by
    obtain ⟨h1, h2, h3, h4⟩ := h
    show (if (p.1 : Int) < 0 ∨ 32 < (p.2 : Int) ∨ (p.2 : Int) ≤ (p.1 : Int) then 1 else if (p.1 : Int) ≤ last then 3 else chkGo (p.2 : Int) (pairs L)) = 0
    rw [if_neg (by omega), if_neg (by omega)]
    exact chkGo_of L (p.2 + 1) p.2 (by omega) h4
theorem chkS_of {L : List (Nat × Nat)} (h : VF 0 L) : chkS (pairs L) = 0 := by
  unfold chkS
  rw [if_neg (by rw [pairs_len]; have := h.len16; omega)]
  exact chkGo_of L 0 (-1) (by omega) h
theorem chkS2_of {L R : List (Nat × Nat)} (h : VF 0 L) (h' : VF 0 R) : chkS2 (pairs L) (pairs R) = 0 := by simp [chkS2, chkS_of h, chkS_of h']
theorem valid2_of {l r : List (Int × Int)} (h : chkS2 l r = 0) : ∃ L R, l = pairs L ∧ r = pairs R ∧ VF 0 L ∧ VF 0 R := by
  unfold chkS2 at h
  split at h
  · rename_i h0
    obtain ⟨L, e, hv⟩ := valid_of (by simpa using h0)
    obtain ⟨R, e', hv'⟩ := valid_of h
    exact ⟨L, R, e, e', hv, hv'⟩
  · rename_i h0
    rw [h] at h0
    simp at h0
/-- what Less does to masks -/
def lessM (a b : Nat) : Nat := a &&& (4294967295 - b)
theorem lessM_bit (a b i : Nat) (hb : b < 2 ^ 32) (ha : a < 2 ^ 32) : (lessM a b).testBit i = (a.testBit i && !b.testBit i) := by
  unfold lessM
  have e : 4294967295 - b = 2 ^ 32 - (b + 1) := by omega
  rw [e, Nat.testBit_and, Nat.testBit_two_pow_sub_succ hb]
  by_cases h : i < 32
  · simp [h]
  · have h2 : a.testBit i = false := Nat.testBit_lt_two_pow (Nat.lt_of_lt_of_le ha (Nat.pow_le_pow_right (by omega) (by omega)))
    simp [h2]
theorem lessM_lt (a b : Nat) (ha : a < 2 ^ 32) : lessM a b < 2 ^ 32 := Nat.lt_of_le_of_lt Nat.and_le_left ha
end Rm
namespace Go.Proofs.Ytphcjjhfgpdhcab
open Go.RowKit Rm
set_option linter.unusedVariables false
/-- is an integer a bit of a mask? -/
def bitB (m : Nat) (n : Int) : Bool := numB n && m.testBit n.toNat
set_option maxHeartbeats 400000 in
set_option maxRecDepth 100000 in
theorem shas_ok (v : Value) (L : List (Nat × Nat)) (n : Int) (w : World) (hl : Rd2 w v (pairs L)) (hL : VF 0 L) :
    Calls Try.prog 8 #[v, .int .i64 n] w fun e w' => e = .returned (.tuple #[.bool (bitB (maskL L) n), .int .i64 0]) ∧ Gr w w' := by
  have hc := chkS_of hL
  have HA := Lib.hid (maskL_lt hL.le)
  cases hn : numB n
  · have e1 : bitB (maskL L) n = false := by simp [bitB, hn]
    rw [e1]
    clear e1
    go_enter Try.func8, Try.ntmps8
    go_wp2_with fail
    refine (scheck_any _ _ _ hl).mono ?_
    rintro e w1 ⟨rfl, g1⟩
    go_wp2_with fail
    refine (isNum_any _ _).mono ?_
    rintro e w2 ⟨rfl, rfl⟩
    go_wp2_with fail
    go_ret2
    exact ⟨rfl, g1⟩
  · obtain ⟨k, rfl⟩ := Int.eq_ofNat_of_zero_le (show 0 ≤ n by simp [numB] at hn; omega)
    have hk : k < 32 := by simp [numB] at hn; omega
    have e1 : bitB (maskL L) k = (maskL L).testBit k := by simp [bitB, hn]
    rw [e1]
    clear e1
    go_enter Try.func8, Try.ntmps8
    go_wp2_with fail
    refine (scheck_any _ _ _ hl).mono ?_
    rintro e w1 ⟨rfl, g1⟩
    go_wp2_with fail
    refine (isNum_any _ _).mono ?_
    rintro e w2 ⟨rfl, rfl⟩
    go_wp2_with fail
    refine (maskOf_any _ _ _ (hl.gr g1) hL).mono ?_
    rintro e w2 ⟨rfl, g2⟩
    go_wp2_with fail
    refine (shas_any _ _ _ HA.out hk).mono ?_
    rintro e w3 ⟨rfl, rfl⟩
    go_wp2_with fail
    go_ret2
    exact ⟨rfl, g1.trans g2⟩

theorem take_snoc_eq {l r : List (Int × Int)} {k : Nat} {p : Int × Int} (h : l.take k = r.take k) (hl : l[k]? = some p) (hr : r[k]? = some p) : l.take (k + 1) = r.take (k + 1) := by
  obtain ⟨h1, e1⟩ := List.getElem?_eq_some_iff.1 hl
  obtain ⟨h2, e2⟩ := List.getElem?_eq_some_iff.1 hr
  rw [List.take_succ_eq_append_getElem h1, List.take_succ_eq_append_getElem h2, h, e1, e2]

set_option maxHeartbeats 1000000 in
set_option maxRecDepth 100000 in
theorem sequal_any (v v' : Value) (l r : List (Int × Int)) (w : World) (hl : Rd2 w v l) (hr : Rd2 w v' r) (hb : l.length < 1000000) :
    Calls Try.prog 5 #[v, v'] w fun e w' => e = .returned (.bool (decide (l = r))) ∧ Gr w w' := by
  obtain ⟨a, cp, rfl, hcp, hx⟩ := hl
  obtain ⟨a', cp', rfl, hcp', hx'⟩ := hr
  have HX := Lib.hid hx
  have HX' := Lib.hid hx'
  clear hx hx'
  have hb' : (l.length : Int) < 1000000 := by omega
  by_cases hlen : l.length = r.length
  · have hne : ((l.length : Int) != (r.length : Int)) = false := by simp; omega
    go_enter Try.func5, Try.ntmps5
    have HLen := Lib.hid hlen
    clear hlen
    go_wp2
    go_loopw [13] (fun i wr => ∃ k : Nat, k ≤ l.length ∧ i = .int .i64 k ∧ Hid (l.take k = r.take k) ∧ Gr w wr) (fun i _ => l.length - (intOf i).toNat)
    case atStart => exact ⟨0, by omega, rfl, rfl, Gr.refl _⟩
    case round =>
      obtain ⟨k, hk, rfl, hh, hg⟩ := hrel
      by_cases hlt : k < l.length
      · have hlt' : k < r.length := by have := HLen.out; omega
        obtain ⟨⟨f, t⟩, hp⟩ : ∃ p, l[k]? = some p := ⟨_, List.getElem?_eq_getElem hlt⟩
        obtain ⟨⟨f', t'⟩, hp'⟩ : ∃ p, r[k]? = some p := ⟨_, List.getElem?_eq_getElem hlt'⟩
        obtain ⟨b, off, rfl, hbb, hcell⟩ := HX.out (by intro e; rw [e] at hlt; simp at hlt)
        obtain ⟨b', off', rfl, hbb', hcell'⟩ := HX'.out (by intro e; rw [e] at hlt'; simp at hlt')
        obtain ⟨c1, c2⟩ := hcell k _ hp
        obtain ⟨d1, d2⟩ := hcell' k _ hp'
        rw [← hg.cells.1 _ _ hbb] at c1 c2
        rw [← hg.cells.1 _ _ hbb'] at d1 d2
        simp only at c1 c2 d1 d2
        clear hcell hcell'
        have hki : (k : Int) < (l.length : Int) := by omega
        have hki' : (k : Int) < (r.length : Int) := by omega
        by_cases q : f = f' ∧ t = t'
        · obtain ⟨rfl, rfl⟩ := q
          have HT := Lib.hid (take_snoc_eq hh.out hp hp')
          clear hh
          go_wp2
          go_quiet (fail)
          go_wp2
          go_roundw
          case rel => exact ⟨k + 1, by omega, by go_num, HT, hg.drewN _⟩
          case measure => simp [intOf]; omega
        · have E : Hid (decide (l = r) = false) := by
            refine decide_eq_false (fun e => q ?_)
            rw [e, hp'] at hp
            simp at hp
            exact ⟨hp.1.symm, hp.2.symm⟩
          clear hh
          by_cases q1 : f = f'
          · subst q1
            have q2 : ¬ t = t' := fun e => q ⟨rfl, e⟩
            clear q
            go_wp2
            go_quiet (fail)
            go_wp2
            go_ret
            exact ⟨by rw [E.out]; rfl, hg.drewN _⟩
          · clear q
            go_wp2
            go_quiet (fail)
            go_wp2
            go_ret
            exact ⟨by rw [E.out]; rfl, hg.drewN _⟩
      · obtain rfl : k = l.length := by omega
        have E : Hid (decide (l = r) = true) := by
          refine decide_eq_true ?_
          have := hh.out
          rw [List.take_length, HLen.out, List.take_length] at this
          exact this
        clear hh
        go_wp2
        go_ret
        exact ⟨by rw [E.out]; rfl, hg⟩
  · have E : decide (l = r) = false := decide_eq_false (fun e => hlen (by rw [e]))
    rw [E]
    have hne : ((l.length : Int) != (r.length : Int)) = true := by simp; omega
    clear E
    go_enter Try.func5, Try.ntmps5
    go_wp2
    go_ret
    exact ⟨rfl, Gr.refl _⟩
theorem ListAt.more {w w1 w2 : World} {l : List (Nat × Nat)} {v : Value} (g : Gr w w1) (h : ListAt w1 w2 l v) : ListAt w w2 l v := by
  refine ⟨g.trans h.1, h.2.1, ?_⟩
  rcases h.2.2 with ⟨a, b⟩ | ⟨g', cap, cur, a, b, c⟩
  · exact .inl ⟨a, b⟩
  · exact .inr ⟨g', cap, cur, a, Nat.le_trans g.le b, c⟩
theorem ListAt.rd {w w1 : World} {l : List (Nat × Nat)} {v : Value} (h : ListAt w w1 l v) : Rd2 w1 v (pairs l) := Rd2.own h.2

/-- a slice that is the set of a mask -/
def MS (w : World) (v : Value) (a : Nat) : Prop := Rd2 w v (pairs (canon a)) ∧ a < 2 ^ 32
theorem MS.gr {w w' : World} {v : Value} {a : Nat} (h : MS w v a) (g : Gr w w') : MS w' v a := ⟨h.1.gr g, h.2⟩
theorem MS.alloc {w : World} {v : Value} {a : Nat} (h : MS w v a) (o : Obj) : MS (w.alloc o) v a := ⟨h.1.alloc o, h.2⟩
theorem ListAt.ms {w w1 : World} {a : Nat} {v : Value} (h : ListAt w w1 (canon a) v) (ha : a < 2 ^ 32) : MS w1 v a := ⟨h.rd, ha⟩

theorem mhas {a : Nat} {v : Value} {w : World} (h : MS w v a) (n : Int) : Calls Try.prog 8 #[v, .int .i64 n] w fun e w' => e = .returned (.tuple #[.bool (bitB a n), .int .i64 0]) ∧ Gr w w' := by
  have := shas_ok v _ n w h.1 (canon_VF a)
  rw [maskL_canon h.2] at this
  exact this
/-- are two masks one? -/
def eqM (a b : Nat) : Bool := decide (a = b)
theorem eqM_true {a b : Nat} (h : a = b) : eqM a b = true := by simp [eqM, h]
theorem canon_len (a : Nat) : (pairs (canon a)).length < 1000000 := by rw [pairs_len]; have := (canon_VF a).len16; omega
theorem mequal {a b : Nat} {v v' : Value} {w : World} (h : MS w v a) (h' : MS w v' b) : Calls Try.prog 5 #[v, v'] w fun e w' => e = .returned (.bool (eqM a b)) ∧ Gr w w' := by
  have hq : decide (pairs (canon a) = pairs (canon b)) = eqM a b := by
    unfold eqM
    rw [Bool.eq_iff_iff]
    simp only [decide_eq_true_eq]
    refine ⟨fun e => ?_, fun e => by rw [e]⟩
    have e' := pairs_inj e
    rw [← maskL_canon h.2, ← maskL_canon h'.2, e']
  have := sequal_any v v' _ _ w h.1 h'.1 (canon_len a)
  rw [hq] at this
  exact this

theorem lit1 (w : World) (f t : Nat) (T : TypeId) (a : Nat) (hc : canon a = [(f, t)]) (ha : a < 2 ^ 32) : MS (w.alloc (.cells #[.int .i64 f, .int .i64 t] T)) (.slice (some ⟨w.heap.size, 0, none⟩) 1 1) a := by
  refine ⟨?_, ha⟩
  rw [hc]
  refine ⟨_, 1, rfl, by simp [pairs], fun _ => ⟨w.heap.size, 0, rfl, by simp, ?_⟩⟩
  intro i p hp
  cases i with
  | zero => simp [pairs] at hp; subst hp; simp [go_sem]
  | succ i => simp [pairs] at hp
end Go.Proofs.Ytphcjjhfgpdhcab
