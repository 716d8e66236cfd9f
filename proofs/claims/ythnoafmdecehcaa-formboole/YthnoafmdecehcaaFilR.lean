/- The plain mathematics of tables: what the statements on filters say of them. -/
import Derived.Test.YthnoafmdecehcaaFilQ
namespace Rm
open Go Go.RowKit
theorem bitT_or (T U : Nat → Nat) (t n : Int) : bitT (fun k => T k ||| U k) t n = (bitT T t n || bitT U t n) := by
  unfold bitT
  rw [Nat.testBit_or]
  cases pointB t n <;> simp
theorem bitT_and (T U : Nat → Nat) (t n : Int) : bitT (fun k => T k &&& U k) t n = (bitT T t n && bitT U t n) := by
  unfold bitT
  rw [Nat.testBit_and]
  cases pointB t n <;> simp
theorem bitT_less {T U : Nat → Nat} (hT : ∀ t, t < 16 → T t < 2 ^ 32) (hU : ∀ t, t < 16 → U t < 2 ^ 32) (t n : Int) : bitT (fun k => lessM (T k) (U k)) t n = (bitT T t n && !bitT U t n) := by
  unfold bitT
  cases h : pointB t n
  · simp
  · obtain ⟨a, b, ha, hb, rfl, rfl⟩ := point_of h
    simp only [Int.toNat_natCast, Bool.true_and]
    exact lessM_bit _ _ _ (hU a ha) (hT a ha)
theorem sameT_of {T U : Nat → Nat} (h : ∀ t, t < 16 → T t = U t) : sameT T U = true := allT_iff.2 fun t ht => by rw [h t ht]; simp
theorem sameT_iff {T U : Nat → Nat} : sameT T U = true ↔ ∀ t, t < 16 → T t = U t := by
  unfold sameT
  rw [allT_iff]
  simp
theorem withinT_iff {T U : Nat → Nat} : withinT T U = true ↔ ∀ t, t < 16 → lessM (T t) (U t) = 0 := by
  unfold withinT
  rw [allT_iff]
  simp
/-- tables whose sets are of numbers below 32 -/
def OkT (T : Nat → Nat) : Prop := ∀ t, t < 16 → T t < 2 ^ 32
theorem okT_full : OkT Go.Proofs.Ythnoafmdecehcaa.fullT := fun _ _ => by simp [Go.Proofs.Ythnoafmdecehcaa.fullT]
open Go.Proofs.Ythnoafmdecehcaa in
theorem cntTo_incl (T U : Nat → Nat) : ∀ k, cntTo T k + cntTo U k = cntTo (fun t => T t ||| U t) k + cntTo (fun t => T t &&& U t) k
  | 0 => rfl
  | k + 1 => by
    have ih := cntTo_incl T U k
    have h := popTo_incl (T k) (U k) 32
    simp only [cntTo, popc]
    omega
theorem popTo_zero : ∀ k, popTo 0 k = 0
  | 0 => rfl
  | k + 1 => by simp [popTo, popTo_zero k]
theorem cntTo_zero {T : Nat → Nat} : ∀ k, (∀ t, t < k → T t = 0) → cntTo T k = 0
  | 0, _ => rfl
  | k + 1, h => by simp only [cntTo]; rw [cntTo_zero k (fun t ht => h t (by omega)), h k (by omega)]; simp [popc, popTo_zero]
theorem popTo_none {m : Nat} : ∀ k, popTo m k = 0 → ∀ i, i < k → m.testBit i = false
  | 0, _, i, hi => by omega
  | k + 1, h, i, hi => by
    simp only [popTo] at h
    rcases Nat.lt_or_ge i k with c | c
    · exact popTo_none k (by omega) i c
    · obtain rfl : i = k := by omega
      cases hb : m.testBit i
      · rfl
      · rw [hb] at h; simp at h
open Go.Proofs.Ythnoafmdecehcaa in
theorem popc_none {m : Nat} (hm : m < 2 ^ 32) (h : popc m = 0) : m = 0 :=
  mask_ext hm (by decide) fun i hi => by rw [popTo_none 32 h i hi, Nat.zero_testBit]
theorem cntTo_none {T : Nat → Nat} (hT : OkT T) : ∀ k, k ≤ 16 → cntTo T k = 0 → ∀ t, t < k → T t = 0
  | 0, _, _, t, ht => by omega
  | k + 1, hk, h, t, ht => by
    simp only [cntTo] at h
    rcases Nat.lt_or_ge t k with c | c
    · exact cntTo_none hT k (by omega) (by omega) t c
    · obtain rfl : t = k := by omega
      exact popc_none (hT t (by omega)) (by omega)
theorem okT_less {T U : Nat → Nat} (hT : OkT T) : OkT (fun t => lessM (T t) (U t)) := fun t ht => lessM_lt _ _ (hT t ht)
theorem cnt_none {T U : Nat → Nat} (hT : OkT T) : (((cntT fun t => lessM (T t) (U t) : Nat) : Int) == 0) = withinT T U := by
  rw [Bool.eq_iff_iff, withinT_iff]
  simp only [beq_iff_eq, cntT]
  constructor
  · intro h t ht
    exact cntTo_none (okT_less hT) 16 (by omega) (by omega) t ht
  · intro h
    have := cntTo_zero 16 h
    omega
open Go.Proofs.Ythnoafmdecehcaa in
theorem same_within {T U : Nat → Nat} (hT : OkT T) (hU : OkT U) : sameT T U = (withinT T U && withinT U T) := by
  rw [Bool.eq_iff_iff, Bool.and_eq_true, sameT_iff, withinT_iff, withinT_iff]
  constructor
  · intro h
    refine ⟨fun t ht => ?_, fun t ht => ?_⟩
    · rw [h t ht]
      have := (sub_iff (hU t ht) (hU t ht)).2 (fun i _ hi => hi)
      simpa [subM] using this
    · rw [h t ht]
      have := (sub_iff (hU t ht) (hU t ht)).2 (fun i _ hi => hi)
      simpa [subM] using this
  · rintro ⟨h1, h2⟩ t ht
    have h3 := sub_anti (hT t ht) (hU t ht)
    simp only [subM, h1 t ht, h2 t ht, eqM] at h3
    simpa using h3
open Go.Proofs.Ythnoafmdecehcaa in
theorem within_trans {T U V : Nat → Nat} (hT : OkT T) (hU : OkT U) (hV : OkT V) (h1 : withinT T U = true) (h2 : withinT U V = true) : withinT T V = true := by
  rw [withinT_iff] at *
  intro t ht
  have := sub_trans (hT t ht) (hU t ht) (hV t ht) (by simpa [subM] using h1 t ht) (by simpa [subM] using h2 t ht)
  simpa [subM] using this
open Go.Proofs.Ythnoafmdecehcaa in
theorem within_of {T U : Nat → Nat} (hT : OkT T) (hU : OkT U) (h : ∀ t, t < 16 → ∀ i, i < 32 → (T t).testBit i = true → (U t).testBit i = true) : withinT T U = true := by
  rw [withinT_iff]
  intro t ht
  have := (sub_iff (hT t ht) (hU t ht)).2 (h t ht)
  simpa [subM] using this
open Go.Proofs.Ythnoafmdecehcaa in
theorem within_bit {T U : Nat → Nat} (hT : OkT T) (hU : OkT U) (h : withinT T U = true) {t i : Nat} (ht : t < 16) (hi : i < 32) (hb : (T t).testBit i = true) : (U t).testBit i = true := by
  rw [withinT_iff] at h
  exact (sub_iff (hT t ht) (hU t ht)).1 (by simpa [subM] using h t ht) i hi hb
theorem okT_or {T U : Nat → Nat} (hT : OkT T) (hU : OkT U) : OkT (fun t => T t ||| U t) := fun t ht => Nat.or_lt_two_pow (hT t ht) (hU t ht)
theorem okT_and {T U : Nat → Nat} (hT : OkT T) : OkT (fun t => T t &&& U t) := fun t ht => Nat.lt_of_le_of_lt Nat.and_le_left (hT t ht)
theorem within_has {T U : Nat → Nat} (hT : OkT T) (hU : OkT U) (h : withinT T U = true) {t n : Int} (hb : bitT T t n = true) : bitT U t n = true := by
  unfold bitT at *
  simp only [Bool.and_eq_true] at *
  obtain ⟨a, b, ha, hb', rfl, rfl⟩ := point_of hb.1
  exact ⟨hb.1, within_bit hT hU h (by simpa using ha) (by simpa using hb') hb.2⟩
open Go.Proofs.Ythnoafmdecehcaa in
theorem cntTo_parts {T U : Nat → Nat} (hT : OkT T) (hU : OkT U) : ∀ k, k ≤ 16 → cntTo (fun t => T t &&& U t) k + cntTo (fun t => lessM (T t) (U t)) k = cntTo T k
  | 0, _ => rfl
  | k + 1, hk => by
    have ih := cntTo_parts hT hU k (by omega)
    have h := popTo_parts (hT k (by omega)) (hU k (by omega)) 32
    simp only [cntTo, popc]
    omega
theorem within_cnt {T U : Nat → Nat} (hT : OkT T) (hU : OkT U) (h : withinT T U = true) : cntT T ≤ cntT U ∧ decide (cntT T < cntT U) = !withinT U T := by
  have p1 := cntTo_parts hT hU 16 (by omega)
  have p2 := cntTo_parts hU hT 16 (by omega)
  have e : (fun t => U t &&& T t) = (fun t => T t &&& U t) := funext fun t => Nat.and_comm _ _
  rw [e] at p2
  have z : cntTo (fun t => lessM (T t) (U t)) 16 = 0 := cntTo_zero 16 (withinT_iff.1 h)
  have c := cnt_none (U := T) hU
  unfold cntT at *
  refine ⟨by omega, ?_⟩
  rw [← c, Bool.eq_iff_iff]
  simp
  omega
end Rm
namespace Go.Proofs.Ythnoafmdecehcaa
open Go.RowKit Rm
set_option linter.unusedVariables false
theorem fs_of {w : World} {v : Value} {l : List BoxI} (hl : RdF w v l) (h : (chkF l == 0) = true) : ∃ T, FS w v T ∧ OkT T := by
  obtain ⟨F, rfl, hF, hn⟩ := okF_of (by simpa using h)
  exact ⟨tabF F, ⟨F, hl, hF, hn, fun _ _ => rfl⟩, fun t _ => tabF_lt hF t⟩
set_option maxHeartbeats 400000 in
set_option maxRecDepth 100000 in
theorem fcheck_ok {w : World} {v : Value} {T : Nat → Nat} (h : FS w v T) : Calls Try.prog 55 #[v] w fun e w' => e = .returned (.int .i64 0) ∧ Gr w w' := by
  obtain ⟨F, h1, hF, hl, _⟩ := h
  have := fcheck_any v _ w h1
  rw [chkF_of hF hl] at this
  exact this
theorem fs2_of {w : World} {v v' : Value} {l r : List BoxI} (hl : RdF w v l) (hr : RdF w v' r) (h : (chkF2 l r == 0) = true) : ∃ T U, FS w v T ∧ FS w v' U ∧ OkT T ∧ OkT U := by
  unfold chkF2 at h
  split at h
  · rename_i h0
    obtain ⟨T, a, b⟩ := fs_of hl h0
    obtain ⟨U, c, d⟩ := fs_of hr h
    exact ⟨T, U, a, c, b, d⟩
  · rename_i h0
    exact absurd h h0
end Go.Proofs.Ythnoafmdecehcaa
