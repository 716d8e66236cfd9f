/- Package filter's Every; the statements' same and filterBegun; filters that are written out. -/
import Derived.Test.YthnoafmdecehcaaFilN
namespace Go.Proofs.Ythnoafmdecehcaa
open Go.RowKit Rm
set_option linter.unusedVariables false

/-- a filter of one box that is written out: its numbers in a block, the box in the next one -/
theorem lit_box (w : World) (y n f t : Nat) (S B : TypeId) (m : Nat) (hc : canon m = [(f, t)]) (hm : m < 2 ^ 32) (hv : Vld y n) :
    FSn 1 ((w.alloc (.cells #[.int .i64 f, .int .i64 t] S)).alloc (.cells #[.int .i64 y, .int .i64 n, .slice (some ⟨w.heap.size, 0, none⟩) 1 1] B)) (.slice (some ⟨w.heap.size + 1, 0, none⟩) 1 1) (tabF [((y, n), m)]) := by
  refine ⟨[((y, n), m)], ⟨_, 1, rfl, by simp, fun _ => ⟨w.heap.size + 1, 0, rfl, by simp, ?_⟩⟩, ?_, by simp, fun _ _ => rfl⟩
  · intro i p hp
    cases i with
    | succ i => simp at hp
    | zero =>
      simp at hp
      subst hp
      refine ⟨.slice (some ⟨w.heap.size, 0, none⟩) 1 1, ?_, ?_, ?_, ?_⟩
      · simp [go_sem, boxI]
      · simp [go_sem, boxI]
      · simp [go_sem]
      · have h := (lit1 w f t S m hc hm).1
        exact h.gr ((Gr.refl _).alloc _)
  · intro b hb
    obtain rfl : b = ((y, n), m) := by simpa using hb
    exact ⟨hv, hm⟩
theorem vld00 : Vld 0 0 := by refine ⟨?_, ?_, ?_⟩ <;> decide
theorem vld10 : Vld 1 0 := by refine ⟨?_, ?_, ?_⟩ <;> decide
theorem canonFull : canon 4294967295 = [(0, 32)] := by decide +kernel
theorem tabFull : ∀ t < 16, tabF [((0, 0), 4294967295)] t = 4294967295 := by decide +kernel
/-- all numbers, for every combination of tags -/
def fullT : Nat → Nat := fun _ => 4294967295

/-- the same, in new memory -/
theorem lit_own (w : World) (y n f t : Nat) (m : Nat) (hc : canon m = [(f, t)]) (hm : m < 2 ^ 32) (hv : Vld y n) :
    FO w.heap.size 1 ((w.alloc (.cells #[.int .i64 f, .int .i64 t] 53)).alloc (.cells #[.int .i64 y, .int .i64 n, .slice (some ⟨w.heap.size, 0, none⟩) 1 1] 56)) (.slice (some ⟨w.heap.size + 1, 0, none⟩) 1 1) (tabF [((y, n), m)]) := by
  refine ⟨[(((y, n), m), .slice (some ⟨w.heap.size, 0, none⟩) 1 1)], ?_, ?_, ?_, by simp, fun _ _ => rfl⟩
  · have h := World.ownsRow_lit (base := w.heap.size) (e := 56) (size := 3) (w.alloc (.cells #[.int .i64 f, .int .i64 t] 53)) #[.int .i64 y, .int .i64 n, .slice (some ⟨w.heap.size, 0, none⟩) 1 1] 1 (by simp) (by simp [maxLen]) rfl
    simpa [flatO] using h
  · intro p hp
    obtain rfl : p = (((y, n), m), .slice (some ⟨w.heap.size, 0, none⟩) 1 1) := by simpa using hp
    simp only
    rw [hc]
    have h := World.ownsRow_lit (base := w.heap.size) (e := 53) (size := 2) w #[.int .i64 f, .int .i64 t] 1 (Nat.le_refl _) (by simp [maxLen]) rfl
    exact h.alloc _
  · intro b hb
    obtain rfl : b = ((y, n), m) := by simpa using hb
    exact ⟨hv, hm⟩

set_option maxHeartbeats 400000 in
set_option maxRecDepth 100000 in
theorem fevery_own (w : World) : Calls Try.prog 33 #[] w fun e w' => ∃ v, e = .returned v ∧ FO w.heap.size 1 w' v fullT ∧ Gr w w' := by
  have HB := Lib.hid ((lit_own w 0 0 0 32 4294967295 canonFull (by decide) vld00).ext tabFull)
  go_enter Try.func33, Try.ntmps33
  go_wp2
  go_ret
  exact ⟨_, rfl, HB.out, ((Gr.refl _).alloc _).alloc _⟩
theorem fevery (w : World) : Calls Try.prog 33 #[] w fun e w' => ∃ v, e = .returned v ∧ FSn 1 w' v fullT ∧ Gr w w' :=
  (fevery_own w).mono fun e w' ⟨v, he, hv, g⟩ => ⟨v, he, hv.fs, g⟩

set_option maxHeartbeats 400000 in
set_option maxRecDepth 100000 in
theorem same_any {v v' : Value} {T U : Nat → Nat} {w : World} (h : FS w v T) (h' : FS w v' U) :
    Calls Try.prog 23 #[v, v'] w fun e w' => e = .returned (.bool (sameT T U)) ∧ Gr w w' := by
  have HA := Lib.hid h
  have HB := Lib.hid h'
  clear h h'
  go_enter Try.func23, Try.ntmps23
  go_wp2_with fail
  refine (fsame_ok HA.out HB.out).mono ?_
  rintro e w1 ⟨rfl, g1⟩
  go_wp2_with fail
  go_ret
  exact ⟨rfl, g1⟩

theorem canon3 : canon 3 = [(0, 2)] := by decide +kernel
theorem cnt16 : cntT (tabF [((1, 0), 3)]) = 16 := by decide +kernel
set_option maxHeartbeats 400000 in
set_option maxRecDepth 100000 in
theorem begun_any (w : World) : Calls Try.prog 26 #[] w fun e w' => e = .returned (.bool true) ∧ Gr w w' := by
  have HB := Lib.hid (fun S B => lit_box w 1 0 0 2 S B 3 canon3 (by decide) vld10)
  have hc := cnt16
  go_enter Try.func26, Try.ntmps26
  go_wp2_with fail
  refine (fcount_ok ((HB.out _ _).le (by omega))).mono ?_
  rw [hc]
  rintro e w1 ⟨rfl, g1⟩
  go_wp2_with fail
  go_ret
  exact ⟨rfl, (((Gr.refl _).alloc _).alloc _).trans g1⟩
end Go.Proofs.Ythnoafmdecehcaa
