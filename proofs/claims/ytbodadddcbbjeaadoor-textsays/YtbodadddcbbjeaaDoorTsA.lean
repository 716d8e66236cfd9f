/- The document's own reading of texts: numbers, and what a text begins with. -/
import Derived.Test.YtbodadddcbbjeaaDoorTextV
import Derived.Test.YtbodadddcbbjeaaDoorRefG
namespace Rm
open Go Go.RowKit
/-- how many digits are ahead -/
def digs : List UInt8 → Nat
  | [] => 0
  | c :: r => if digB c then digs r + 1 else 0
theorem digs_le : ∀ s : List UInt8, digs s ≤ s.length
  | [] => Nat.le_refl _
  | c :: r => by have := digs_le r; simp only [digs]; split <;> simp <;> omega
theorem digs_drop {s : List UInt8} {k : Nat} (h : digs s = k + digs (s.drop k)) {c : UInt8} (hc : s[k]? = some c) (hd : digB c = true) : digs s = k + 1 + digs (s.drop (k + 1)) := by
  obtain ⟨hlt, e⟩ := List.getElem?_eq_some_iff.1 hc
  rw [List.drop_eq_getElem_cons hlt, e] at h
  simp only [digs, hd, if_true] at h
  omega
theorem digs_stop {s : List UInt8} {k : Nat} (h : digs s = k + digs (s.drop k)) {c : UInt8} (hc : s[k]? = some c) (hd : digB c = false) : digs s = k := by
  obtain ⟨hlt, e⟩ := List.getElem?_eq_some_iff.1 hc
  rw [List.drop_eq_getElem_cons hlt, e] at h
  simpa [digs, hd] using h
theorem digs_end {s : List UInt8} {k : Nat} (h : digs s = k + digs (s.drop k)) (hk : s.length ≤ k) : digs s = k := by
  rw [List.drop_of_length_le hk] at h
  simpa [digs] using h
/-- a number, as the document reads it: all digits that are ahead -/
def rNum (s : List UInt8) : Option (Nat × List UInt8) :=
  match s with
  | [] => none
  | c :: r => if digs s = 1 then some (c.toNat - 48, r) else
    match r with
    | [] => none
    | d :: r' => if digs s = 2 ∧ c.toNat ≠ 48 then some (10 * (c.toNat - 48) + (d.toNat - 48), r') else none
theorem noDig_digs {r : List UInt8} (h : NoDig r) : digs r = 0 := by
  cases r with
  | nil => rfl
  | cons d r' => simp [digs, h d r' rfl]
theorem digs_noDig {r : List UInt8} (h : digs r = 0) : NoDig r := by
  intro d r' e
  subst e
  simp only [digs] at h
  split at h
  · omega
  · rename_i hd; simpa using hd
theorem rNum_dec {a : Nat} (h : a ≤ 99) {r : List UInt8} (hr : NoDig r) : rNum (dec a ++ r) = some (a, r) := by
  have h0 := noDig_digs hr
  unfold dec
  split
  · rename_i h10
    obtain ⟨h1, h2⟩ := dig_byte a h10
    simp only [List.cons_append, List.nil_append, rNum]
    rw [if_pos (by simp only [digs, h1, h0, if_true]), h2]
    simp
  · rename_i h10
    obtain ⟨h1, h2⟩ := dig_byte (a / 10) (by omega)
    obtain ⟨h3, h4⟩ := dig_byte (a % 10) (by omega)
    simp only [List.cons_append, List.nil_append, rNum]
    have hd : digs (UInt8.ofNat (48 + a / 10) :: UInt8.ofNat (48 + a % 10) :: r) = 2 := by simp only [digs, h1, h3, h0, if_true]
    rw [if_neg (by omega), if_pos ⟨hd, by omega⟩, h2, h4]
    congr 2
    omega
theorem rNum_of {s r : List UInt8} {a : Nat} (h : rNum s = some (a, r)) : a ≤ 99 ∧ s = dec a ++ r := by
  unfold rNum at h
  split at h
  · cases h
  · rename_i c r0
    split at h
    · rename_i h1
      cases h
      have hc : digB c = true := by
        simp only [digs] at h1
        split at h1
        · assumption
        · cases h1
      obtain ⟨d, hd, e, et⟩ := dig_of hc
      rw [et, show 48 + d - 48 = d from by omega]
      exact ⟨by omega, by unfold dec; rw [if_pos hd, e]; rfl⟩
    · split at h
      · cases h
      · rename_i d2 r' _
        split at h
        · rename_i hh
          cases h
          have hc : digB c = true := by
            have h1 := hh.1
            simp only [digs] at h1
            split at h1
            · assumption
            · cases h1
          have hc2 : digB d2 = true := by
            have h1 := hh.1
            simp only [digs, hc, if_true] at h1
            split at h1
            · assumption
            · cases h1
          obtain ⟨d, hd, e, et⟩ := dig_of hc
          obtain ⟨b, hb, e2, et2⟩ := dig_of hc2
          have hd0 : d ≠ 0 := by have := hh.2; omega
          rw [et, et2, show 10 * (48 + d - 48) + (48 + b - 48) = 10 * d + b from by omega]
          refine ⟨by omega, ?_⟩
          unfold dec
          rw [if_neg (by omega), show (10 * d + b) / 10 = d from by omega, show (10 * d + b) % 10 = b from by omega, e, e2]
          rfl
        · cases h
theorem rNum_len {s r : List UInt8} {a : Nat} (h : rNum s = some (a, r)) : r.length < s.length := by
  obtain ⟨_, e⟩ := rNum_of h
  have := dec_pos a
  rw [e]
  simp; omega
end Rm
namespace Go.Proofs.YtbodadddcbbjeaaDoor
open Go.RowKit Rm
set_option linter.unusedVariables false
set_option linter.unusedSimpArgs false
theorem run_str_get (s : List UInt8) (k : Nat) (c : UInt8) (h : s[k]? = some c) (w : World) : (Instr.index 9 (.string (str s)) (.int .i64 (k : Int))).run Tryd.prog w = .ok (.int .u8 (c.toNat : Int)) w := by
  obtain ⟨hlt, e⟩ := List.getElem?_eq_some_iff.1 h
  rw [run_index_string _ _ _ _ _ Tryd.underlying9, dif_pos ⟨by omega, by rw [str_size]; omega⟩]
  have : (str s)[((k : Int)).toNat]'(by rw [str_size]; simp; exact hlt) = c := by
    simp only [Int.toNat_natCast]
    exact e
  rw [this]
theorem run_str_drop (s : List UInt8) (k : Nat) (h : k ≤ s.length) (w : World) : (Instr.slice 9 (.string (str s)) (some (.int .i64 (k : Int))) none none).run Tryd.prog w = .ok (.string (str (s.drop k))) w := by
  rw [run_slice_string_from_if _ _ _ _ _ Tryd.underlying9, if_pos ⟨by omega, by rw [str_size]; omega⟩, str_size]
  unfold str
  rw [ByteArray.extract_mk]
  simp
  exact List.take_of_length_le (by simp)

set_option maxHeartbeats 1000000 in
set_option maxRecDepth 100000 in
theorem hasPrefix_any (s : List UInt8) (x : UInt8) (w : World) :
    Calls Tryd.prog 44 #[.string (str s), .string (str [x])] w fun e w' => e = .returned (.bool (pExp x s).isSome) ∧ w' = w := by
  have z0 := str_size s
  have z1 := str_size [x]
  have l1 := str_list [x]
  cases s with
  | nil =>
    simp only [pExp, Option.isSome_none]
    go_enter Tryd.func44, Tryd.ntmps44
    go_wp2
    go_ret
    exact ⟨rfl, rfl⟩
  | cons c r =>
    have hsl : ∀ w, (Instr.slice 9 (.string (str (c :: r))) none (some (.int .i64 1)) none).run Tryd.prog w = .ok (.string (str [c])) w := fun w => by
      rw [run_slice_string_to_if _ _ _ _ _ Tryd.underlying9, if_pos ⟨by omega, by rw [str_size]; simp; omega⟩, show ((1 : Int).toNat) = 1 from rfl, str_take]
      rfl
    have l2 := str_list [c]
    have hle : (1 : Int) ≤ (r.length : Int) + 1 := by omega
    by_cases hc : c = x
    · simp only [pExp, if_pos hc, Option.isSome_some]
      subst hc
      go_enter Tryd.func44, Tryd.ntmps44
      go_wp2
      go_ret
      exact ⟨rfl, rfl⟩
    · simp only [pExp, if_neg hc, Option.isSome_none]
      have hb : ([c] == [x]) = false := by simpa using hc
      have hb2 : (c == x) = false := by simpa using hc
      go_enter Tryd.func44, Tryd.ntmps44
      go_wp2
      go_ret
      exact ⟨rfl, rfl⟩
theorem ib38 (w : World) : (callFunc 73 #[.string ⟨#[38, 124]⟩, .int .u8 38]).run Tryd.prog w = .ok (.value (.int .i64 0)) w := by kernel_rfl
theorem ib124 (w : World) : (callFunc 73 #[.string ⟨#[38, 124]⟩, .int .u8 124]).run Tryd.prog w = .ok (.value (.int .i64 1)) w := by kernel_rfl
end Go.Proofs.YtbodadddcbbjeaaDoor
