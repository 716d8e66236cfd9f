/- The document's own read: texts that are no pairs. -/
import Derived.Test.YtbodadddcbbjeaaDoorTsD
namespace Go.Proofs.YtbodadddcbbjeaaDoor
open Go.RowKit Rm
set_option linter.unusedVariables false
set_option linter.unusedSimpArgs false
/-- contracts at hand -/
def NumOk (s : List UInt8) (a : Nat) (r : List UInt8) : Prop := ∀ w, Calls Tryd.prog 43 #[.string (str s)] w fun e w' => Gr w w' ∧ e = .returned (.tuple #[.int .i64 (a : Int), .string (str r), .bool true])
def NumNo (s : List UInt8) : Prop := ∀ w, Calls Tryd.prog 43 #[.string (str s)] w fun e w' => Gr w w' ∧ e = .returned (.tuple #[.int .i64 0, .string (str s), .bool false])
def PreIs (s : List UInt8) (x : UInt8) (v : Bool) : Prop := ∀ w, Calls Tryd.prog 44 #[.string (str s), .string (str [x])] w fun e w' => e = .returned (.bool v) ∧ w' = w
def RdOk (s : List UInt8) (l : List Nd) (r : List UInt8) (m : List Nd) : Prop := ∀ (W : World) (b : Nat) (u : Value), OwnN b W u l → b ≤ W.heap.size → Calls Tryd.prog 27 #[.string (str s), u] W fun e w' => W.grownBy w' u.ownBlock ∧ ∃ u', e = .returned (.tuple #[u', .string (str r), .bool true]) ∧ OwnN b w' u' m ∧ (u'.ownBlock = u.ownBlock ∨ ∀ k, u'.ownBlock = some k → W.heap.size ≤ k)
def RdNo (s : List UInt8) (l : List Nd) : Prop := ∀ (W : World) (b : Nat) (u : Value), OwnN b W u l → b ≤ W.heap.size → Calls Tryd.prog 27 #[.string (str s), u] W fun e w' => W.grownBy w' u.ownBlock ∧ ∃ r, e = .returned (.tuple #[.slice none 0 0, .string (str r), .bool false])
theorem nil_own (b : Nat) (w : World) : OwnN b w (.slice none 0 0) [] := World.ownsRow_nil _ _ _ _
theorem nil_block {j : Nat} {P : Prop} (h : (Value.slice none 0 0).ownBlock = some j) : P := by simp [Value.ownBlock] at h
theorem newAt (w : World) (cs : List Value) (t : TypeId) (N : Nat) (hN : w.heap.size = N) : ∀ j u, cs[j]? = some u → (w.alloc (.cells cs.toArray t)).cell? ((⟨N, 0, none⟩ : Addr).add j) = some u := by subst hN; exact newK w cs t
theorem late_block {u : Value} {N M : Nat} {p : Option Nat} (h : u.ownBlock = p ∨ u.ownBlock = some N) (hN : M ≤ N) : u.ownBlock = p ∨ ∀ j, u.ownBlock = some j → M ≤ j := by
  rcases h with c | c
  · exact .inl c
  · exact .inr fun j e => by rw [c] at e; cases e; exact hN

set_option maxHeartbeats 400000 in
set_option maxRecDepth 100000 in
theorem rd_nil (b : Nat) (u : Value) (w : World) : Calls Tryd.prog 27 #[.string (str []), u] w fun e w' => RSays b u none w e w' := by
  have hs := str_list []
  have hnn : (ByteArray.mk #[]).toList = [] := str_list []
  go_enter Tryd.func27, Tryd.ntmps27
  go_wp2_with fail
  go_ret3
  exact ⟨grown_refl _ _, [], rfl⟩

set_option maxHeartbeats 4000000 in
set_option maxRecDepth 100000 in
theorem rd_all (r : List UInt8) (l : List Nd) (ua : Option Addr) (uc b : Nat) (w : World) (ho : OwnN b w (.slice ua l.length uc) l) (hl : l.length ≤ 1000) (hb0 : b ≤ w.heap.size)  :
    Calls Tryd.prog 27 #[.string (str (42 :: r)), .slice ua l.length uc] w fun e w' => RSays b (.slice ua l.length uc) (some (r, l ++ [(1, 0, 0)])) w e w' := by
  obtain ⟨i0, hi0, hz0, hz1, hz2⟩ := info_parts node_info
  have hs := str_list (42 :: r)
  have hnn : (ByteArray.mk #[]).toList = [] := str_list []
  have hi := fun w => run_str_at (P := Tryd.prog) 9 42 r w Tryd.underlying9
  have ht := fun w => run_str_tail (P := Tryd.prog) 9 42 r w Tryd.underlying9
  have hb : ((42 : UInt8).toNat : Int) = 42 := rfl
  have HO := Lib.hid ho
  clear ho
  go_enter Tryd.func27, Tryd.ntmps27
  go_wp2_with fail
  go_quiet (fail)
  have g0 : Hid (Gr w (w.drewN nq)) := (Gr.refl w).drewN nq
  have z0 : Hid ((w.drewN nq).heap.size = w.heap.size) := rfl
  generalize w.drewN nq = w1 at *
  have R0 := Lib.hid (RS.start w1 (HO.out.gr g0.out) (by have := z0.out; omega) 1 0 0)
  have RX := Lib.hid (R0.out.gr ((Gr.refl _).alloc (.cells #[.int .i64 1, .int .i64 0, .int .i64 0] 30)))
  go_wp2_with (at_builtin; refine wpList_append_at _ rfl (.tmp 136) (.tmp 138) 22 rfl b 30 i0 _ 3 24 Tryd.underlying22 hi0 hz0 hz1 hz2 rfl (by omega) _ _ _ rfl RX.out.ow ⟨_, 0, none⟩ 1 1 [.int .i64 1, .int .i64 0, .int .i64 0] rfl rfl (newAt _ [.int .i64 1, .int .i64 0, .int .i64 0] 30 _ (by simp)) (by simp [Value.oneCell']) (by simp only [maxLen]; omega) (by omega) (by have := RX.out.gb.size; have := RX.out.bw; omega) (by omega) ?_; intro v9 w9 o9 g9 d9)
  go_ret3
  refine RSays.from g0.out z0.out (RX.out.fine g9 (OwnN.app (r := [(1, 0, 0)]) o9 (by simp) rfl) (late_block d9 ?_) r)
  simp

set_option maxHeartbeats 4000000 in
set_option maxRecDepth 100000 in
theorem rd_else (c : UInt8) (r : List UInt8) (l : List Nd) (ua : Option Addr) (uc b : Nat) (w : World) (ho : OwnN b w (.slice ua l.length uc) l) (hl : l.length ≤ 1000) (hb0 : b ≤ w.heap.size) (hc42 : ¬ c = 42) (hc35 : ¬ c = 35) (hc91 : ¬ c = 91) (hc33 : ¬ c = 33) (hc40 : ¬ c = 40) :
    Calls Tryd.prog 27 #[.string (str (c :: r)), .slice ua l.length uc] w fun e w' => RSays b (.slice ua l.length uc) (none) w e w' := by
  obtain ⟨i0, hi0, hz0, hz1, hz2⟩ := info_parts node_info
  have hs := str_list (c :: r)
  have hnn : (ByteArray.mk #[]).toList = [] := str_list []
  have hi := fun w => run_str_at (P := Tryd.prog) 9 c r w Tryd.underlying9
  have ht := fun w => run_str_tail (P := Tryd.prog) 9 c r w Tryd.underlying9
  have b42 := byte_ne hc42 (n := 42) rfl
  have b35 := byte_ne hc35 (n := 35) rfl
  have b91 := byte_ne hc91 (n := 91) rfl
  have b33 := byte_ne hc33 (n := 33) rfl
  have b40 := byte_ne hc40 (n := 40) rfl
  clear hc42 hc35 hc91 hc33 hc40
  have HO := Lib.hid ho
  clear ho
  go_enter Tryd.func27, Tryd.ntmps27
  go_wp2_with fail
  go_quiet (fail)
  have g0 : Hid (Gr w (w.drewN nq)) := (Gr.refl w).drewN nq
  have z0 : Hid ((w.drewN nq).heap.size = w.heap.size) := rfl
  generalize w.drewN nq = w1 at *
  have R0 := Lib.hid (RS.start w1 (HO.out.gr g0.out) (by have := z0.out; omega) 0 0 0)
  go_wp2_with fail
  go_ret3
  exact RSays.from g0.out z0.out (R0.out.fail r)

set_option maxHeartbeats 4000000 in
set_option maxRecDepth 100000 in
theorem rd_tagno (r : List UInt8) (l : List Nd) (ua : Option Addr) (uc b : Nat) (w : World) (ho : OwnN b w (.slice ua l.length uc) l) (hl : l.length ≤ 1000) (hb0 : b ≤ w.heap.size) (H : NumNo r) :
    Calls Tryd.prog 27 #[.string (str (35 :: r)), .slice ua l.length uc] w fun e w' => RSays b (.slice ua l.length uc) (none) w e w' := by
  obtain ⟨i0, hi0, hz0, hz1, hz2⟩ := info_parts node_info
  have hs := str_list (35 :: r)
  have hnn : (ByteArray.mk #[]).toList = [] := str_list []
  have hi := fun w => run_str_at (P := Tryd.prog) 9 35 r w Tryd.underlying9
  have ht := fun w => run_str_tail (P := Tryd.prog) 9 35 r w Tryd.underlying9
  have hb : ((35 : UInt8).toNat : Int) = 35 := rfl
  have H1 := Lib.hid H
  clear H
  have HO := Lib.hid ho
  clear ho
  go_enter Tryd.func27, Tryd.ntmps27
  go_wp2_with fail
  go_quiet (fail)
  have g0 : Hid (Gr w (w.drewN nq)) := (Gr.refl w).drewN nq
  have z0 : Hid ((w.drewN nq).heap.size = w.heap.size) := rfl
  generalize w.drewN nq = w1 at *
  have R0 := Lib.hid (RS.start w1 (HO.out.gr g0.out) (by have := z0.out; omega) 2 0 0)
  go_wp2_with fail
  refine (H1.out _).mono ?_
  rintro e w2 ⟨g2, rfl⟩
  have R1 := Lib.hid (R0.out.gr g2)
  obtain ⟨c1, c2, c3, f1, f2, f3⟩ := R1.out.cells
  have R2 := Lib.hid (R1.out.set1 0)
  go_wp2_with fail
  go_ret3
  exact RSays.from g0.out z0.out (R2.out.fail r)

set_option maxHeartbeats 4000000 in
set_option maxRecDepth 100000 in
theorem rd_tag (r : List UInt8) (l : List Nd) (ua : Option Addr) (uc b : Nat) (w : World) (ho : OwnN b w (.slice ua l.length uc) l) (hl : l.length ≤ 1000) (hb0 : b ≤ w.heap.size) (a : Nat) (s1 : List UInt8) (H : NumOk r a s1) :
    Calls Tryd.prog 27 #[.string (str (35 :: r)), .slice ua l.length uc] w fun e w' => RSays b (.slice ua l.length uc) (some (s1, l ++ [(2, (a : Int), 0)])) w e w' := by
  obtain ⟨i0, hi0, hz0, hz1, hz2⟩ := info_parts node_info
  have hs := str_list (35 :: r)
  have hnn : (ByteArray.mk #[]).toList = [] := str_list []
  have hi := fun w => run_str_at (P := Tryd.prog) 9 35 r w Tryd.underlying9
  have ht := fun w => run_str_tail (P := Tryd.prog) 9 35 r w Tryd.underlying9
  have hb : ((35 : UInt8).toNat : Int) = 35 := rfl
  have H1 := Lib.hid H
  clear H
  have HO := Lib.hid ho
  clear ho
  go_enter Tryd.func27, Tryd.ntmps27
  go_wp2_with fail
  go_quiet (fail)
  have g0 : Hid (Gr w (w.drewN nq)) := (Gr.refl w).drewN nq
  have z0 : Hid ((w.drewN nq).heap.size = w.heap.size) := rfl
  generalize w.drewN nq = w1 at *
  have R0 := Lib.hid (RS.start w1 (HO.out.gr g0.out) (by have := z0.out; omega) 2 0 0)
  go_wp2_with fail
  refine (H1.out _).mono ?_
  rintro e w2 ⟨g2, rfl⟩
  have R1 := Lib.hid (R0.out.gr g2)
  obtain ⟨c1, c2, c3, f1, f2, f3⟩ := R1.out.cells
  have R2 := Lib.hid (R1.out.set1 (a : Int))
  have RX := Lib.hid (R2.out.gr ((Gr.refl _).alloc (.cells #[.int .i64 2, .int .i64 (a : Int), .int .i64 0] 30)))
  go_wp2_with (at_builtin; refine wpList_append_at _ rfl (.tmp 136) (.tmp 138) 22 rfl b 30 i0 _ 3 24 Tryd.underlying22 hi0 hz0 hz1 hz2 rfl (by omega) _ _ _ rfl RX.out.ow ⟨_, 0, none⟩ 1 1 [.int .i64 2, .int .i64 (a : Int), .int .i64 0] rfl rfl (newAt _ [.int .i64 2, .int .i64 (a : Int), .int .i64 0] 30 _ (by simp)) (by simp [Value.oneCell']) (by simp only [maxLen]; omega) (by omega) (by have := RX.out.gb.size; have := RX.out.bw; omega) (by omega) ?_; intro v9 w9 o9 g9 d9)
  go_ret3
  refine RSays.from g0.out z0.out (RX.out.fine g9 (OwnN.app (r := [(2, (a : Int), 0)]) o9 (by simp) rfl) (late_block d9 ?_) s1)
  simp

set_option maxHeartbeats 4000000 in
set_option maxRecDepth 100000 in
theorem rd_in1 (r : List UInt8) (l : List Nd) (ua : Option Addr) (uc b : Nat) (w : World) (ho : OwnN b w (.slice ua l.length uc) l) (hl : l.length ≤ 1000) (hb0 : b ≤ w.heap.size) (H : NumNo r) :
    Calls Tryd.prog 27 #[.string (str (91 :: r)), .slice ua l.length uc] w fun e w' => RSays b (.slice ua l.length uc) (none) w e w' := by
  obtain ⟨i0, hi0, hz0, hz1, hz2⟩ := info_parts node_info
  have hs := str_list (91 :: r)
  have hnn : (ByteArray.mk #[]).toList = [] := str_list []
  have hi := fun w => run_str_at (P := Tryd.prog) 9 91 r w Tryd.underlying9
  have ht := fun w => run_str_tail (P := Tryd.prog) 9 91 r w Tryd.underlying9
  have hb : ((91 : UInt8).toNat : Int) = 91 := rfl
  have H1 := Lib.hid H
  clear H
  have HO := Lib.hid ho
  clear ho
  go_enter Tryd.func27, Tryd.ntmps27
  go_wp2_with fail
  go_quiet (fail)
  have g0 : Hid (Gr w (w.drewN nq)) := (Gr.refl w).drewN nq
  have z0 : Hid ((w.drewN nq).heap.size = w.heap.size) := rfl
  generalize w.drewN nq = w1 at *
  have R0 := Lib.hid (RS.start w1 (HO.out.gr g0.out) (by have := z0.out; omega) 3 0 0)
  go_wp2_with fail
  refine (H1.out _).mono ?_
  rintro e w2 ⟨g2, rfl⟩
  have R1 := Lib.hid (R0.out.gr g2)
  obtain ⟨c1, c2, c3, f1, f2, f3⟩ := R1.out.cells
  have R2 := Lib.hid (R1.out.set1 0)
  go_wp2_with fail
  go_ret3
  exact RSays.from g0.out z0.out (R2.out.fail r)

set_option maxHeartbeats 4000000 in
set_option maxRecDepth 100000 in
theorem rd_in2 (r : List UInt8) (l : List Nd) (ua : Option Addr) (uc b : Nat) (w : World) (ho : OwnN b w (.slice ua l.length uc) l) (hl : l.length ≤ 1000) (hb0 : b ≤ w.heap.size) (a : Nat) (s1 : List UInt8) (H : NumOk r a s1) (HP : PreIs s1 44 false) :
    Calls Tryd.prog 27 #[.string (str (91 :: r)), .slice ua l.length uc] w fun e w' => RSays b (.slice ua l.length uc) (none) w e w' := by
  obtain ⟨i0, hi0, hz0, hz1, hz2⟩ := info_parts node_info
  have hs := str_list (91 :: r)
  have hnn : (ByteArray.mk #[]).toList = [] := str_list []
  have hi := fun w => run_str_at (P := Tryd.prog) 9 91 r w Tryd.underlying9
  have ht := fun w => run_str_tail (P := Tryd.prog) 9 91 r w Tryd.underlying9
  have hb : ((91 : UInt8).toNat : Int) = 91 := rfl
  have H1 := Lib.hid H
  have H2 := Lib.hid HP
  clear H HP
  have HO := Lib.hid ho
  clear ho
  go_enter Tryd.func27, Tryd.ntmps27
  go_wp2_with fail
  go_quiet (fail)
  have g0 : Hid (Gr w (w.drewN nq)) := (Gr.refl w).drewN nq
  have z0 : Hid ((w.drewN nq).heap.size = w.heap.size) := rfl
  generalize w.drewN nq = w1 at *
  have R0 := Lib.hid (RS.start w1 (HO.out.gr g0.out) (by have := z0.out; omega) 3 0 0)
  go_wp2_with fail
  refine (H1.out _).mono ?_
  rintro e w2 ⟨g2, rfl⟩
  have R1 := Lib.hid (R0.out.gr g2)
  obtain ⟨c1, c2, c3, f1, f2, f3⟩ := R1.out.cells
  have R2 := Lib.hid (R1.out.set1 (a : Int))
  go_wp2_with fail
  refine (H2.out _).mono ?_
  rintro e wx ⟨rfl, rfl⟩
  go_wp2_with fail
  go_ret3
  exact RSays.from g0.out z0.out (R2.out.fail s1)

set_option maxHeartbeats 4000000 in
set_option maxRecDepth 100000 in
theorem rd_in3 (r : List UInt8) (l : List Nd) (ua : Option Addr) (uc b : Nat) (w : World) (ho : OwnN b w (.slice ua l.length uc) l) (hl : l.length ≤ 1000) (hb0 : b ≤ w.heap.size) (a : Nat) (s2 : List UInt8) (H : NumOk r a (44 :: s2)) (HP : PreIs (44 :: s2) 44 true) (HN : NumNo s2) :
    Calls Tryd.prog 27 #[.string (str (91 :: r)), .slice ua l.length uc] w fun e w' => RSays b (.slice ua l.length uc) (none) w e w' := by
  obtain ⟨i0, hi0, hz0, hz1, hz2⟩ := info_parts node_info
  have hs := str_list (91 :: r)
  have hnn : (ByteArray.mk #[]).toList = [] := str_list []
  have hi := fun w => run_str_at (P := Tryd.prog) 9 91 r w Tryd.underlying9
  have ht := fun w => run_str_tail (P := Tryd.prog) 9 91 r w Tryd.underlying9
  have hb : ((91 : UInt8).toNat : Int) = 91 := rfl
  have H1 := Lib.hid H
  have H2 := Lib.hid HP
  have H3 := Lib.hid HN
  clear H HP HN
  have t44 := fun w => run_str_tail (P := Tryd.prog) 9 44 s2 w Tryd.underlying9
  have HO := Lib.hid ho
  clear ho
  go_enter Tryd.func27, Tryd.ntmps27
  go_wp2_with fail
  go_quiet (fail)
  have g0 : Hid (Gr w (w.drewN nq)) := (Gr.refl w).drewN nq
  have z0 : Hid ((w.drewN nq).heap.size = w.heap.size) := rfl
  generalize w.drewN nq = w1 at *
  have R0 := Lib.hid (RS.start w1 (HO.out.gr g0.out) (by have := z0.out; omega) 3 0 0)
  go_wp2_with fail
  refine (H1.out _).mono ?_
  rintro e w2 ⟨g2, rfl⟩
  have R1 := Lib.hid (R0.out.gr g2)
  obtain ⟨c1, c2, c3, f1, f2, f3⟩ := R1.out.cells
  have R2 := Lib.hid (R1.out.set1 (a : Int))
  go_wp2_with fail
  refine (H2.out _).mono ?_
  rintro e wx ⟨rfl, rfl⟩
  go_wp2_with fail
  generalize hW : w2.setCell ⟨w1.heap.size, 1, none⟩ (.int .i64 (a : Int)) = w3 at *
  refine (H3.out _).mono ?_
  rintro e w4 ⟨g4, rfl⟩
  have R3 := Lib.hid (R2.out.gr g4)
  clear c1 c2 c3 f1 f2 f3
  obtain ⟨c1, c2, c3, f1, f2, f3⟩ := R3.out.cells
  have R4 := Lib.hid (R3.out.set2 0)
  go_wp2_with fail
  go_ret3
  exact RSays.from g0.out z0.out (R4.out.fail s2)

set_option maxHeartbeats 4000000 in
set_option maxRecDepth 100000 in
theorem rd_in4 (r : List UInt8) (l : List Nd) (ua : Option Addr) (uc b : Nat) (w : World) (ho : OwnN b w (.slice ua l.length uc) l) (hl : l.length ≤ 1000) (hb0 : b ≤ w.heap.size) (a b2 : Nat) (s2 s3 : List UInt8) (H : NumOk r a (44 :: s2)) (HP : PreIs (44 :: s2) 44 true) (HN : NumOk s2 b2 s3) (HQ : PreIs s3 41 false) :
    Calls Tryd.prog 27 #[.string (str (91 :: r)), .slice ua l.length uc] w fun e w' => RSays b (.slice ua l.length uc) (none) w e w' := by
  obtain ⟨i0, hi0, hz0, hz1, hz2⟩ := info_parts node_info
  have hs := str_list (91 :: r)
  have hnn : (ByteArray.mk #[]).toList = [] := str_list []
  have hi := fun w => run_str_at (P := Tryd.prog) 9 91 r w Tryd.underlying9
  have ht := fun w => run_str_tail (P := Tryd.prog) 9 91 r w Tryd.underlying9
  have hb : ((91 : UInt8).toNat : Int) = 91 := rfl
  have H1 := Lib.hid H
  have H2 := Lib.hid HP
  have H3 := Lib.hid HN
  clear H HP HN
  have t44 := fun w => run_str_tail (P := Tryd.prog) 9 44 s2 w Tryd.underlying9
  have H4 := Lib.hid HQ
  clear HQ
  have HO := Lib.hid ho
  clear ho
  go_enter Tryd.func27, Tryd.ntmps27
  go_wp2_with fail
  go_quiet (fail)
  have g0 : Hid (Gr w (w.drewN nq)) := (Gr.refl w).drewN nq
  have z0 : Hid ((w.drewN nq).heap.size = w.heap.size) := rfl
  generalize w.drewN nq = w1 at *
  have R0 := Lib.hid (RS.start w1 (HO.out.gr g0.out) (by have := z0.out; omega) 3 0 0)
  go_wp2_with fail
  refine (H1.out _).mono ?_
  rintro e w2 ⟨g2, rfl⟩
  have R1 := Lib.hid (R0.out.gr g2)
  obtain ⟨c1, c2, c3, f1, f2, f3⟩ := R1.out.cells
  have R2 := Lib.hid (R1.out.set1 (a : Int))
  go_wp2_with fail
  refine (H2.out _).mono ?_
  rintro e wx ⟨rfl, rfl⟩
  go_wp2_with fail
  generalize hW : w2.setCell ⟨w1.heap.size, 1, none⟩ (.int .i64 (a : Int)) = w3 at *
  refine (H3.out _).mono ?_
  rintro e w4 ⟨g4, rfl⟩
  have R3 := Lib.hid (R2.out.gr g4)
  clear c1 c2 c3 f1 f2 f3
  obtain ⟨c1, c2, c3, f1, f2, f3⟩ := R3.out.cells
  have R4 := Lib.hid (R3.out.set2 (b2 : Int))
  go_wp2_with fail
  refine (H4.out _).mono ?_
  rintro e wx ⟨rfl, rfl⟩
  go_wp2_with fail
  go_ret3
  exact RSays.from g0.out z0.out (R4.out.fail s3)

set_option maxHeartbeats 4000000 in
set_option maxRecDepth 100000 in
theorem rd_in5 (r : List UInt8) (l : List Nd) (ua : Option Addr) (uc b : Nat) (w : World) (ho : OwnN b w (.slice ua l.length uc) l) (hl : l.length ≤ 1000) (hb0 : b ≤ w.heap.size) (a b2 : Nat) (s2 s4 : List UInt8) (H : NumOk r a (44 :: s2)) (HP : PreIs (44 :: s2) 44 true) (HN : NumOk s2 b2 (41 :: s4)) (HQ : PreIs (41 :: s4) 41 true) :
    Calls Tryd.prog 27 #[.string (str (91 :: r)), .slice ua l.length uc] w fun e w' => RSays b (.slice ua l.length uc) (some (s4, l ++ [(3, (a : Int), (b2 : Int))])) w e w' := by
  obtain ⟨i0, hi0, hz0, hz1, hz2⟩ := info_parts node_info
  have hs := str_list (91 :: r)
  have hnn : (ByteArray.mk #[]).toList = [] := str_list []
  have hi := fun w => run_str_at (P := Tryd.prog) 9 91 r w Tryd.underlying9
  have ht := fun w => run_str_tail (P := Tryd.prog) 9 91 r w Tryd.underlying9
  have hb : ((91 : UInt8).toNat : Int) = 91 := rfl
  have H1 := Lib.hid H
  have H2 := Lib.hid HP
  have H3 := Lib.hid HN
  clear H HP HN
  have t44 := fun w => run_str_tail (P := Tryd.prog) 9 44 s2 w Tryd.underlying9
  have H4 := Lib.hid HQ
  clear HQ
  have t41 := fun w => run_str_tail (P := Tryd.prog) 9 41 s4 w Tryd.underlying9
  have HO := Lib.hid ho
  clear ho
  go_enter Tryd.func27, Tryd.ntmps27
  go_wp2_with fail
  go_quiet (fail)
  have g0 : Hid (Gr w (w.drewN nq)) := (Gr.refl w).drewN nq
  have z0 : Hid ((w.drewN nq).heap.size = w.heap.size) := rfl
  generalize w.drewN nq = w1 at *
  have R0 := Lib.hid (RS.start w1 (HO.out.gr g0.out) (by have := z0.out; omega) 3 0 0)
  go_wp2_with fail
  refine (H1.out _).mono ?_
  rintro e w2 ⟨g2, rfl⟩
  have R1 := Lib.hid (R0.out.gr g2)
  obtain ⟨c1, c2, c3, f1, f2, f3⟩ := R1.out.cells
  have R2 := Lib.hid (R1.out.set1 (a : Int))
  go_wp2_with fail
  refine (H2.out _).mono ?_
  rintro e wx ⟨rfl, rfl⟩
  go_wp2_with fail
  generalize hW : w2.setCell ⟨w1.heap.size, 1, none⟩ (.int .i64 (a : Int)) = w3 at *
  refine (H3.out _).mono ?_
  rintro e w4 ⟨g4, rfl⟩
  have R3 := Lib.hid (R2.out.gr g4)
  clear c1 c2 c3 f1 f2 f3
  obtain ⟨c1, c2, c3, f1, f2, f3⟩ := R3.out.cells
  have R4 := Lib.hid (R3.out.set2 (b2 : Int))
  go_wp2_with fail
  refine (H4.out _).mono ?_
  rintro e wx ⟨rfl, rfl⟩
  have RX := Lib.hid (R4.out.gr ((Gr.refl _).alloc (.cells #[.int .i64 3, .int .i64 (a : Int), .int .i64 (b2 : Int)] 30)))
  go_wp2_with (at_builtin; refine wpList_append_at _ rfl (.tmp 136) (.tmp 138) 22 rfl b 30 i0 _ 3 24 Tryd.underlying22 hi0 hz0 hz1 hz2 rfl (by omega) _ _ _ rfl RX.out.ow ⟨_, 0, none⟩ 1 1 [.int .i64 3, .int .i64 (a : Int), .int .i64 (b2 : Int)] rfl rfl (newAt _ [.int .i64 3, .int .i64 (a : Int), .int .i64 (b2 : Int)] 30 _ (by simp)) (by simp [Value.oneCell']) (by simp only [maxLen]; omega) (by omega) (by have := RX.out.gb.size; have := RX.out.bw; omega) (by omega) ?_; intro v9 w9 o9 g9 d9)
  go_ret3
  refine RSays.from g0.out z0.out (RX.out.fine g9 (OwnN.app (r := [(3, (a : Int), (b2 : Int))]) o9 (by simp) rfl) (late_block d9 ?_) s4)
  simp
end Go.Proofs.YtbodadddcbbjeaaDoor
