/- Package filter by tables: Point, Has, Count, Every; the statements' same and filterBegun. -/
import Derived.Test.YthnoafmdecehcaaFilL
namespace Rm
open Go Go.RowKit
/-- is it a point? -/
def pointB (t n : Int) : Bool := decide (0 ≤ t) && decide (t < 16) && (decide (0 ≤ n) && decide (n < 32))
theorem point_of {t n : Int} (h : pointB t n = true) : ∃ a b : Nat, a < 16 ∧ b < 32 ∧ t = a ∧ n = b := by
  simp [pointB] at h
  exact ⟨t.toNat, n.toNat, by omega, by omega, by omega, by omega⟩
theorem pointB_nat {a b : Nat} (ha : a < 16) (hb : b < 32) : pointB a b = true := by simp [pointB]; omega
/-- what Has answers -/
def bitT (T : Nat → Nat) (t n : Int) : Bool := pointB t n && (T t.toNat).testBit n.toNat
def errP (t n : Int) : Int := if pointB t n then 0 else 1
/-- how many points below a combination of tags -/
def cntTo (T : Nat → Nat) : Nat → Nat
  | 0 => 0
  | k + 1 => cntTo T k + popc (T k)
def cntT (T : Nat → Nat) : Nat := cntTo T 16
theorem cntTo_le (T : Nat → Nat) : ∀ k, cntTo T k ≤ 32 * k
  | 0 => Nat.le_refl _
  | k + 1 => by have := cntTo_le T k; have := popc_le (T k); simp only [cntTo]; omega
theorem cntTo_congr {T U : Nat → Nat} : ∀ k, (∀ t, t < k → T t = U t) → cntTo T k = cntTo U k
  | 0, _ => rfl
  | k + 1, h => by simp only [cntTo]; rw [cntTo_congr k (fun t ht => h t (by omega)), h k (by omega)]
end Rm
namespace Go.Proofs.Ythnoafmdecehcaa
open Go.RowKit Rm
set_option linter.unusedVariables false
attribute [local go_sem ↓] Go.wp_at_zero Go.wp_at_succ

set_option maxHeartbeats 1000000 in
set_option maxRecDepth 100000 in
theorem point_any (t n : Int) (w : World) :
    Calls Try.prog 24 #[.agg #[.int .i64 t, .int .i64 n]] w fun e w' => e = .returned (.bool (pointB t n)) ∧ Gr w w' := by
  by_cases h1 : 0 ≤ t
  · by_cases h2 : t < 16
    · by_cases h3 : 0 ≤ n
      · by_cases h4 : n < 32
        · have e : pointB t n = true := by simp [pointB, h1, h2, h3, h4]
          rw [e]
          go_enter Try.func24, Try.ntmps24
          go_wp2
          go_ret
          exact ⟨rfl, (Gr.refl _).alloc _⟩
        · have e : pointB t n = false := by simp [pointB, h4]
          rw [e]
          go_enter Try.func24, Try.ntmps24
          go_wp2
          go_ret
          exact ⟨rfl, (Gr.refl _).alloc _⟩
      · have e : pointB t n = false := by simp [pointB, h3]
        rw [e]
        go_enter Try.func24, Try.ntmps24
        go_wp2
        go_ret
        exact ⟨rfl, (Gr.refl _).alloc _⟩
    · have e : pointB t n = false := by simp [pointB, h2]
      rw [e]
      go_enter Try.func24, Try.ntmps24
      go_wp2
      go_ret
      exact ⟨rfl, (Gr.refl _).alloc _⟩
  · have e : pointB t n = false := by simp [pointB, h1]
    rw [e]
    go_enter Try.func24, Try.ntmps24
    go_wp2
    go_ret
    exact ⟨rfl, (Gr.refl _).alloc _⟩

set_option maxHeartbeats 1000000 in
set_option maxRecDepth 100000 in
theorem fcount_bad {v : Value} {l : List BoxI} {w : World} (hl : RdF w v l) (hc : (chkF l == 0) = false) :
    Calls Try.prog 66 #[v] w fun e w' => e = .returned (.tuple #[.int .i64 0, .int .i64 (chkF l)]) ∧ Gr w w' := by
  have hc' := bne_of' hc
  have HL := Lib.hid hl
  clear hl
  go_enter Try.func66, Try.ntmps66
  go_wp2_with fail
  refine (fcheck_any _ _ _ HL.out).mono ?_
  rintro e w1 ⟨rfl, g1⟩
  go_wp2_with fail
  go_ret2
  exact ⟨rfl, g1⟩

set_option maxHeartbeats 1000000 in
set_option maxRecDepth 100000 in
theorem fcount_ok {v : Value} {T : Nat → Nat} {w : World} (h : FS w v T) :
    Calls Try.prog 66 #[v] w fun e w' => e = .returned (.tuple #[.int .i64 (cntT T : Nat), .int .i64 0]) ∧ Gr w w' := by
  obtain ⟨F, h1, hF, hl1, t1⟩ := h
  have hc := chkF_of hF hl1
  have HL := Lib.hid h1
  have HF := Lib.hid hF
  have HT : Hid (cntT T = cntTo (tabF F) 16) := (cntTo_congr 16 t1).symm
  clear h1 hF t1
  go_enter Try.func66, Try.ntmps66
  go_wp2_with fail
  refine (fcheck_any _ _ _ HL.out).mono ?_
  rw [hc]
  rintro e w1 ⟨rfl, g1⟩
  go_wp2_with fail
  refine (tableOf_any _ _ _ (HL.out.gr g1) HF.out hl1).mono ?_
  rintro e w2 ⟨rfl, g2⟩
  have G2 := g1.trans g2
  clear g1 g2
  go_wp2_with fail
  go_loop [5, 15] (fun a i => ∃ k : Nat, k ≤ 16 ∧ i = .int .i64 k ∧ a = .int .i64 (cntTo (tabF F) k : Nat)) (fun _ i => 16 - (intOf i).toNat)
  case atStart => exact ⟨0, by omega, rfl, rfl⟩
  case round =>
    obtain ⟨k, hk, rfl, rfl⟩ := hrel
    by_cases hlt : k < 16
    · have hix := fun wx => index_table (tabF F) k hlt wx
      have hk16 : (k : Int) < 16 := by omega
      have hcl : ((cntTo (tabF F) k : Nat) : Int) ≤ 512 := by have := cntTo_le (tabF F) k; omega
      have hpl : ((popc (tabF F k) : Nat) : Int) ≤ 32 := by have := popc_le (tabF F k); omega
      have HS : Hid (((cntTo (tabF F) (k + 1) : Nat) : Int) = ((cntTo (tabF F) k : Nat) : Int) + ((popc (tabF F k) : Nat) : Int)) := by simp only [cntTo]; unfold Hid; omega
      have HLT := Lib.hid (tabF_lt HF.out k)
      generalize cntTo (tabF F) k = cc at *
      generalize tabF F k = tk at *
      go_wp2_with fail
      refine (ones64_mask tk _ HLT.out).mono ?_
      rintro e w3 ⟨rfl, rfl⟩
      go_wp2_with fail
      go_round
      case rel => exact ⟨k + 1, by omega, by go_num, by rw [HS.out]⟩
      case measure => simp [intOf]; omega
    · obtain rfl : k = 16 := by omega
      go_wp2_with fail
      go_ret2
      exact ⟨by rw [HT.out]; rfl, G2⟩

set_option maxHeartbeats 1000000 in
set_option maxRecDepth 100000 in
theorem fhas_bad {v : Value} {l : List BoxI} {w : World} (t n : Int) (hl : RdF w v l) (hc : (chkF l == 0) = false) :
    Calls Try.prog 21 #[v, .agg #[.int .i64 t, .int .i64 n]] w fun e w' => e = .returned (.tuple #[.bool false, .int .i64 (chkF l)]) ∧ Gr w w' := by
  have hc' := bne_of' hc
  have HL := Lib.hid hl
  clear hl
  go_enter Try.func21, Try.ntmps21
  go_wp2_with fail
  refine (fcheck_any _ _ _ (HL.out.alloc _)).mono ?_
  rintro e w1 ⟨rfl, g1⟩
  go_wp2_with fail
  go_ret2
  exact ⟨rfl, ((Gr.refl _).alloc _).trans g1⟩

theorem tableOf_at (B : Nat) (t n : Int) (v : Value) (F : List Bx) (w : World) (hr : RdF w v (F.map boxI)) (hF : OkF F) (hl : F.length ≤ 40) (h : Two w B t n) :
    Calls Try.prog 64 #[v] w fun e w' => e = .returned (.agg (tArr (tabF F))) ∧ Gr w w' ∧ w'.cell? ⟨B, 0, none⟩ = some (.int .i64 t) ∧ w'.cell? ⟨B, 1, none⟩ = some (.int .i64 n) :=
  (tableOf_any v F w hr hF hl).mono fun e w' ⟨he, g⟩ => ⟨he, g, (h.gr g).2⟩

set_option maxHeartbeats 1000000 in
set_option maxRecDepth 100000 in
theorem fhas_ok {v : Value} {T : Nat → Nat} {w : World} (h : FS w v T) (t n : Int) :
    Calls Try.prog 21 #[v, .agg #[.int .i64 t, .int .i64 n]] w fun e w' => e = .returned (.tuple #[.bool (bitT T t n), .int .i64 (errP t n)]) ∧ Gr w w' := by
  obtain ⟨F, h1, hF, hl1, t1⟩ := h
  have hc := chkF_of hF hl1
  have HL := Lib.hid h1
  have HF := Lib.hid hF
  cases hp : pointB t n
  · have e1 : bitT T t n = false := by simp [bitT, hp]
    have e2 : errP t n = 1 := by simp [errP, hp]
    rw [e1, e2]
    clear h1 hF t1 e1 e2
    go_enter Try.func21, Try.ntmps21
    go_wp2_with fail
    refine (fcheck_any _ _ _ (HL.out.alloc _)).mono ?_
    rw [hc]
    rintro e w1 ⟨rfl, g1⟩
    obtain ⟨k1, k2⟩ := g1.cells
    go_wp2_with fail
    refine (point_any _ _ _).mono ?_
    rw [hp]
    rintro e w2 ⟨rfl, g2⟩
    go_wp2_with fail
    go_ret2
    exact ⟨rfl, (((Gr.refl _).alloc _).trans g1).trans g2⟩
  · obtain ⟨a, b, ha, hb, rfl, rfl⟩ := point_of hp
    have e1 : bitT T a b = (tabF F a).testBit b := by simp [bitT, hp, t1 a ha]
    have e2 : errP a b = 0 := by simp [errP, hp]
    rw [e1, e2]
    have HLT := Lib.hid (tabF_lt hF a)
    have hix := fun wx => index_table (tabF F) a ha wx
    have ha16 : (a : Int) < 16 := by omega
    have hb32 : (b : Int) < 32 := by omega
    clear h1 hF t1 e1 e2
    go_enter Try.func21, Try.ntmps21
    go_wp2_with fail
    refine (fcheck_any _ _ _ (HL.out.alloc _)).mono ?_
    rw [hc]
    rintro e w1 ⟨rfl, g1⟩
    obtain ⟨k1, k2⟩ := g1.cells
    go_wp2_with fail
    refine (point_any _ _ _).mono ?_
    rw [hp]
    rintro e w2 ⟨rfl, g2⟩
    have T2 := Lib.hid (((Two.new w a b 24).gr g1).gr g2)
    have G2 := (((Gr.refl w).alloc (.cells #[.int .i64 (a : Int), .int .i64 (b : Int)] 24)).trans g1).trans g2
    have T2d : Hid (Two w2.drew w.heap.size a b) := T2.out.gr ((Gr.refl _).drew)
    have R2 := Lib.hid (HL.out.gr G2.drew)
    clear k1 k2 g1 g2
    obtain ⟨q1, q2, q3⟩ := T2.out
    go_wp2_with fail
    go_region_held3 (fun x => x.cell? ⟨w.heap.size, 0, none⟩ = some (.int .i64 (a : Int)) ∧ x.cell? ⟨w.heap.size, 1, none⟩ = some (.int .i64 (b : Int))) (go_keep)
      (first
        | (go_at_call 64; refine (tableOf_at w.heap.size _ _ _ F _ R2.out HF.out hl1 T2d.out).mono ?_; rintro e w3 ⟨rfl, g3, k1, k2⟩)
        | (go_at_call 63; refine (fhas_any _ b _ HLT.out hb).mono ?_; rintro e w4 ⟨rfl, rfl⟩))
    go_wp2_with fail
    go_ret2
    exact ⟨rfl, G2.drew.trans g3⟩
end Go.Proofs.Ythnoafmdecehcaa
