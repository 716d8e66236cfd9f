/- TextBoth: filters by their points; strings with a sign. -/
import Derived.Test.YtbodadddcbbjeaaTextP
namespace Go.Proofs.Ytbodadddcbbjeaa
open Go.RowKit Rm
set_option linter.unusedVariables false
set_option linter.unusedSimpArgs false
theorem fp_keep_same' {b b' : Nat} {w : World} {v v' : Value} {P Q : Pt} (h : FP b w v P) (h' : FP b' w v' Q) (e : P = Q) :
    Calls Try.prog 10 #[v, v'] w fun e w' => e = .returned (.bool true) ∧ Gr w w' := by
  subst e
  obtain ⟨T, h1, h2, h3⟩ := h.fs
  obtain ⟨U, k1, k2, k3⟩ := h'.fs
  have := same_any h1 k1
  rw [fp_same h2 k2 h3 k3] at this
  exact this
theorem fp_notall {b b' : Nat} {w : World} {v u : Value} {P : Pt} (h : FO b 1 w v fullT) (h' : FP b' w u P) :
    Calls Try.prog 8 #[v, u] w fun e w' => ∃ r, e = .returned (.tuple #[r, .int .i64 0]) ∧ FP w.heap.size w' r (fun t x => !P t x) ∧ Gr w w' := by
  obtain ⟨T, k1, k2, k3⟩ := h'.fs
  refine (fless_own (h.fs.le (by omega)) k1).mono fun e w' ⟨r, he, ho, g⟩ => ⟨r, he, ⟨_, ho, ?_⟩, g⟩
  exact rep_not (v := fun _ => P) (a := 0) 0 k2 k3
theorem fp_meet {b b' : Nat} {w : World} {v u : Value} {P Q : Pt} (h : FP b w v P) (h' : FP b' w u Q) :
    Calls Try.prog 11 #[v, u] w fun e w' => ∃ r, e = .returned (.tuple #[r, .int .i64 0]) ∧ FP w.heap.size w' r (fun t x => P t x && Q t x) ∧ Gr w w' := by
  obtain ⟨T, h1, h2, h3⟩ := h.fs
  obtain ⟨U, k1, k2, k3⟩ := h'.fs
  refine (fmeet_own h1 k1).mono fun e w' ⟨r, he, ho, g⟩ => ⟨r, he, ⟨_, ho, ?_⟩, g⟩
  exact rep_both (v := fun i => if i = 0 then P else Q) (a := 0) (b := 1) h3 k3
theorem fp_join {b b' : Nat} {w : World} {v u : Value} {P Q : Pt} (h : FP b w v P) (h' : FP b' w u Q) :
    Calls Try.prog 12 #[v, u] w fun e w' => ∃ r, e = .returned (.tuple #[r, .int .i64 0]) ∧ FP w.heap.size w' r (fun t x => P t x || Q t x) ∧ Gr w w' := by
  obtain ⟨T, h1, h2, h3⟩ := h.fs
  obtain ⟨U, k1, k2, k3⟩ := h'.fs
  refine (fjoin_own h1 k1).mono fun e w' ⟨r, he, ho, g⟩ => ⟨r, he, ⟨_, ho, ?_⟩, g⟩
  exact rep_any (v := fun i => if i = 0 then P else Q) (a := 0) (b := 1) h3 k3
theorem strs_add (a b : List UInt8) (x : ByteArray) (hx : x = str a) (ha : a.length ≤ 2 ^ 50) (hb : b.length ≤ 2 ^ 50) (c : List UInt8) (hc : a ++ b = c) (w : World) : (Op.stringOp .add x (str b)).run Try.prog w = .ok (.string (str c)) w := by
  subst hx hc
  rw [run_string_add_sum _ _ _ (by rw [str_size, str_size]; omega), str_app]
theorem strs_add' (a b : List UInt8) (x : ByteArray) (hx : x = str b) (ha : a.length ≤ 2 ^ 50) (hb : b.length ≤ 2 ^ 50) (c : List UInt8) (hc : a ++ b = c) (w : World) : (Op.stringOp .add (str a) x).run Try.prog w = .ok (.string (str c)) w := by
  subst hx hc
  rw [run_string_add_sum _ _ _ (by rw [str_size, str_size]; omega), str_app]
theorem both_lit : readL [33, 42] = (0, [(1, 0, 0), (4, 0, 0)]) := by kernel_rfl
/-- the strings that the law puts together -/
structure Adds2 (s t q3 q4 q5 : List UInt8) : Prop where
  a1 : ∀ w, (Op.stringOp .add ⟨#[40]⟩ (str s)).run Try.prog w = .ok (.string (str (40 :: s))) w
  a2 : ∀ w, (Op.stringOp .add (str (40 :: s)) ⟨#[38]⟩).run Try.prog w = .ok (.string (str (40 :: (s ++ [38])))) w
  a3 : ∀ w, (Op.stringOp .add (str (40 :: (s ++ [38]))) (str t)).run Try.prog w = .ok (.string (str (40 :: (s ++ 38 :: t)))) w
  a4 : ∀ w, (Op.stringOp .add (str (40 :: (s ++ 38 :: t))) ⟨#[41]⟩).run Try.prog w = .ok (.string (str q3)) w
  b2 : ∀ w, (Op.stringOp .add (str (40 :: s)) ⟨#[124]⟩).run Try.prog w = .ok (.string (str (40 :: (s ++ [124])))) w
  b3 : ∀ w, (Op.stringOp .add (str (40 :: (s ++ [124]))) (str t)).run Try.prog w = .ok (.string (str (40 :: (s ++ 124 :: t)))) w
  b4 : ∀ w, (Op.stringOp .add (str (40 :: (s ++ 124 :: t))) ⟨#[41]⟩).run Try.prog w = .ok (.string (str q4)) w
  c1 : ∀ w, (Op.stringOp .add ⟨#[33]⟩ (str s)).run Try.prog w = .ok (.string (str q5)) w
theorem adds2 (s t : List UInt8) (hs : s.length ≤ 2 ^ 47) (ht : t.length ≤ 2 ^ 47) : Adds2 s t (bothS s t) (anyS s t) (33 :: s) where
  a1 := strs_add [40] s _ rfl (by decide) (by omega) _ rfl
  a2 := strs_add' (40 :: s) [38] _ rfl (by simp; omega) (by decide) _ (by simp)
  a3 := strs_add (40 :: (s ++ [38])) t _ rfl (by simp; omega) (by omega) _ (by simp)
  a4 := strs_add' (40 :: (s ++ 38 :: t)) [41] _ rfl (by simp; omega) (by decide) _ (by simp [bothS])
  b2 := strs_add' (40 :: s) [124] _ rfl (by simp; omega) (by decide) _ (by simp)
  b3 := strs_add (40 :: (s ++ [124])) t _ rfl (by simp; omega) (by omega) _ (by simp)
  b4 := strs_add' (40 :: (s ++ 124 :: t)) [41] _ rfl (by simp; omega) (by decide) _ (by simp [anyS])
  c1 := strs_add [33] s _ rfl (by decide) (by omega) _ rfl
/-- Read's contract at a string -/
def ReadsAs (q : List UInt8) (k : Int) (m : List Nd) : Prop := ∀ w, Calls Try.prog 6 #[.string (str q)] w fun e w' => ∃ u, e = .returned (.tuple #[u, .int .i64 k]) ∧ Gr w w' ∧ OwnN w.heap.size w' u m
theorem reads_as (q : List UInt8) : ReadsAs q (readL q).1 (readL q).2 := read_any q
theorem reads_lit : ReadsAs [33, 42] 0 [(1, 0, 0), (4, 0, 0)] := by have := reads_as [33, 42]; rwa [both_lit] at this
end Go.Proofs.Ytbodadddcbbjeaa
