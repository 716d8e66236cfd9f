/- Package text: Show. -/
import Derived.Test.YtbodadddcbbjeaaDoorTextP
import Derived.Laws.DeepStrings4
namespace Rm
open Go Go.RowKit
/-- the text of a node, by the texts of the earlier ones -/
def ndS (n : Nd) (ts : Nat → List UInt8) : List UInt8 :=
  if n.1 = 2 then 35 :: dec n.2.1.toNat
  else if n.1 = 3 then 91 :: (dec n.2.1.toNat ++ 44 :: (dec n.2.2.toNat ++ [41]))
  else if n.1 = 4 then 33 :: ts n.2.1.toNat
  else if n.1 = 5 then 40 :: (ts n.2.1.toNat ++ 38 :: (ts n.2.2.toNat ++ [41]))
  else if n.1 = 6 then 40 :: (ts n.2.1.toNat ++ 124 :: (ts n.2.2.toNat ++ [41]))
  else [42]
def getS (v : List (List UInt8)) (i : Nat) : List UInt8 := v.getD i []
/-- the texts of the nodes, each cut just beyond the limit -/
def showF (v : List (List UInt8)) (n : Nd) : List (List UInt8) := v ++ [(ndS n (getS v)).take 401]
def showL (l : List Nd) : List (List UInt8) := l.foldl showF []
theorem showL_snoc (l : List Nd) (n : Nd) : showL (l ++ [n]) = showL l ++ [(ndS n (getS (showL l))).take 401] := by simp [showL, showF]
theorem showL_len (l : List Nd) : (showL l).length = l.length := by
  suffices h : ∀ v : List (List UInt8), (l.foldl showF v).length = v.length + l.length by simpa [showL] using h []
  induction l with
  | nil => intro v; rfl
  | cons n l ih => intro v; simp only [List.foldl_cons]; rw [ih]; simp [showF]; omega
theorem showL_take {l : List Nd} {k : Nat} {n : Nd} (h : l[k]? = some n) : showL (l.take (k + 1)) = showL (l.take k) ++ [(ndS n (getS (showL (l.take k)))).take 401] := by
  obtain ⟨hk, e⟩ := List.getElem?_eq_some_iff.1 h
  rw [List.take_succ_eq_append_getElem hk, e, showL_snoc]
theorem showL_all (l : List Nd) : ∀ x ∈ showL l, x.length ≤ 401 := by
  suffices h : ∀ v : List (List UInt8), (∀ x ∈ v, x.length ≤ 401) → ∀ x ∈ l.foldl showF v, x.length ≤ 401 from h [] (fun _ h => by cases h)
  induction l with
  | nil => intro v h; exact h
  | cons n l ih =>
    intro v h
    refine ih _ fun x hx => ?_
    rcases List.mem_append.1 hx with c | c
    · exact h x c
    · simp at c
      subst c
      rw [List.length_take]
      omega
theorem getS_at {v : List (List UInt8)} {i : Nat} (h : i < v.length) : v[i]? = some (getS v i) := by simp [getS, List.getD_eq_getElem?_getD, List.getElem?_eq_getElem h]
theorem getS_le {v : List (List UInt8)} (h : ∀ x ∈ v, x.length ≤ 401) (i : Nat) : (getS v i).length ≤ 401 := by
  unfold getS
  rw [List.getD_eq_getElem?_getD]
  cases e : v[i]? with
  | none => simp
  | some x => exact h x (List.mem_of_getElem? e)
theorem dec_le (n : Nat) : (dec n).length ≤ 2 := by unfold dec; split <;> simp
/-- strings as values -/
def strs (L : List (List UInt8)) : List Value := L.map fun x => .string (str x)
theorem strs_len (L : List (List UInt8)) : (strs L).length = L.length := by simp [strs]
theorem strs_at {L : List (List UInt8)} {i : Nat} {x : List UInt8} (h : L[i]? = some x) : (strs L)[i]? = some (.string (str x)) := by simp [strs, h]
end Rm
namespace Go.Proofs.YtbodadddcbbjeaaDoor
open Go.RowKit Rm
set_option linter.unusedVariables false
set_option linter.unusedSimpArgs false

theorem strs_sum (a b : List UInt8) (x y : ByteArray) (hx : x = str a) (hy : y = str b) (ha : a.length ≤ 2 ^ 50) (hb : b.length ≤ 2 ^ 50) (c : List UInt8) (hc : a ++ b = c) (w : World) : (Op.stringOp .add x y).run Tryd.prog w = .ok (.string (str c)) w := by
  subst hx hy hc
  rw [run_string_add_sum _ _ _ (by rw [str_size, str_size]; omega), str_app]

set_option maxHeartbeats 1000000 in
set_option maxRecDepth 100000 in
theorem small_any (n : Nat) (h : n ≤ 32) (w : World) :
    Calls Tryd.prog 77 #[.int .i64 (n : Int)] w fun e w' => e = .returned (.string (str (dec n))) ∧ w' = w := by
  have h0 : (0 : Int) ≤ (n : Int) := by omega
  by_cases hn : n < 10
  · have h1 : (n : Int) < 10 := by omega
    have h2 : (n : Int) ≤ 36 := by omega
    have h3 : (n : Int) + 1 ≤ 36 := by omega
    have h4 : (n : Int) ≤ (n : Int) + 1 := by omega
    have h5 : (0 : Int) ≤ (n : Int) + 1 := by omega
    go_enter Tryd.func77, Tryd.ntmps77
    go_wp2
    go_ret
    refine ⟨congrArg (fun x => Ending.returned (.string x)) ?_, rfl⟩
    clear h0 h h1 h2 h3 h4 h5
    match n, hn with
    | 0, _ | 1, _ | 2, _ | 3, _ | 4, _ | 5, _ | 6, _ | 7, _ | 8, _ | 9, _ => rfl
  · have h1 : ¬ (n : Int) < 10 := by omega
    have h2 : (n : Int) * 2 ≤ 200 := by omega
    have h3 : (n : Int) * 2 + 2 ≤ 200 := by omega
    have h4 : (n : Int) * 2 ≤ (n : Int) * 2 + 2 := by omega
    have h5 : (0 : Int) ≤ (n : Int) * 2 + 2 := by omega
    have h6 : (0 : Int) ≤ (n : Int) * 2 := by omega
    go_enter Tryd.func77, Tryd.ntmps77
    go_wp2
    go_ret
    refine ⟨congrArg (fun x => Ending.returned (.string x)) ?_, rfl⟩
    obtain ⟨m, rfl⟩ : ∃ m, n = m + 10 := ⟨n - 10, by omega⟩
    have hm : m < 23 := by omega
    clear h0 h h1 h2 h3 h4 h5 h6 hn
    match m, hm with
    | 0, _ | 1, _ | 2, _ | 3, _ | 4, _ | 5, _ | 6, _ | 7, _ | 8, _ | 9, _ | 10, _ | 11, _ | 12, _ | 13, _ | 14, _ | 15, _ | 16, _ | 17, _ | 18, _ | 19, _ | 20, _ | 21, _ | 22, _ => rfl
    | m' + 23, hm => exact absurd hm (by omega)

set_option maxHeartbeats 400000 in
set_option maxRecDepth 100000 in
theorem itoa_any (n : Nat) (h : n ≤ 32) (w : World) :
    Calls Tryd.prog 40 #[.int .i64 (n : Int)] w fun e w' => e = .returned (.string (str (dec n))) ∧ w' = w := by
  have h0 : (0 : Int) ≤ (n : Int) := by omega
  have h1 : (n : Int) < 100 := by omega
  go_enter Tryd.func40, Tryd.ntmps40
  go_wp2_with (first | (go_at_call 54; go_in) | (go_at_call 68; go_in) | (go_at_call 77; refine (small_any n h _).mono ?_; rintro e w' ⟨rfl, rfl⟩))
  go_ret
  exact ⟨rfl, rfl⟩
end Go.Proofs.YtbodadddcbbjeaaDoor
