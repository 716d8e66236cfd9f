/- The contracts of package span's maskOf and list. -/
import Derived.Test.YtphcjjhfgpdhcaaSpanA
namespace Rm
open Go Go.RowKit
theorem or_eq (m n : Nat) (hm : m < 2 ^ 32) (hn : n < 32) : bits .or .u32 (m : Int) (IntKind.u32.wrap (2 ^ n)) = ((m ||| 2 ^ n : Nat) : Int) := by
  rw [u32_pow n hn, u32_or_nat m (2 ^ n) hm (Nat.pow_lt_pow_right (by omega) hn)]
theorem maskL_take {l : List (Nat × Nat)} {k : Nat} {p : Nat × Nat} (h : l[k]? = some p) : maskL (l.take (k + 1)) = orTo (maskL (l.take k)) p.1 (p.2 - p.1) := by
  obtain ⟨hk, e⟩ := List.getElem?_eq_some_iff.1 h
  rw [List.take_succ_eq_append_getElem hk, e, maskL_snoc]
theorem orTo_step (m f n : Nat) (h : f ≤ n) : orTo m f (n + 1 - f) = orTo m f (n - f) ||| 2 ^ n := by
  have e : n + 1 - f = (n - f) + 1 := by omega
  rw [e]
  show orTo m f (n - f) ||| 2 ^ (f + (n - f)) = _
  rw [show f + (n - f) = n from by omega]
theorem VF.pre {lo : Nat} {l r : List (Nat × Nat)} (h : VF lo (l ++ r)) : VF lo l := by
  induction l generalizing lo with
  | nil => trivial
  | cons p l ih => exact ⟨h.1, h.2.1, h.2.2.1, ih h.2.2.2⟩
end Rm
namespace Go.Proofs.Ytphcjjhfgpdhcaa
open Go.RowKit Rm
set_option linter.unusedVariables false

set_option maxHeartbeats 1000000 in
set_option maxRecDepth 100000 in
theorem maskOf_any (v : Value) (L : List (Nat × Nat)) (w : World) (hr : Rd2 w v (pairs L)) (hv : VF 0 L) :
    Calls Try.prog 73 #[v] w fun e w' => e = .returned (.int .u32 (maskL L : Nat)) ∧ Gr w w' := by
  obtain ⟨a, cp, rfl, hcp, hx⟩ := hr
  rw [pairs_len] at hcp
  rw [pairs_len]
  have HX := Lib.hid hx
  have HV := Lib.hid hv
  have hlen := hv.len16
  have hlen' : (L.length : Int) ≤ 16 := by omega
  clear hx hv
  go_enter Try.func73, Try.ntmps73
  go_wp2
  go_loopw [3, 9] (fun m i wr => ∃ k : Nat, k ≤ L.length ∧ i = .int .i64 k ∧ m = .int .u32 (maskL (L.take k) : Nat) ∧ Gr w wr) (fun _ i _ => L.length - (intOf i).toNat)
  case atStart => exact ⟨0, by omega, rfl, rfl, Gr.refl _⟩
  case round =>
    obtain ⟨k, hk, rfl, rfl, hg⟩ := hrel
    generalize wr = wo at *
    by_cases hlt : k < L.length
    · obtain ⟨⟨f, t⟩, hp⟩ : ∃ p, L[k]? = some p := ⟨_, List.getElem?_eq_getElem hlt⟩
      obtain ⟨b, off, rfl, hb, hcell⟩ := HX.out (by intro e; rw [← pairs_len, e] at hlt; simp at hlt)
      have c1 : w.cell? ⟨b, off + k * 2, none⟩ = some (.int .i64 f) := (hcell k _ (pairs_at hp)).1
      have c2 : w.cell? ⟨b, off + k * 2 + 1, none⟩ = some (.int .i64 t) := (hcell k _ (pairs_at hp)).2
      rw [← hg.cells.1 b _ hb] at c1 c2
      have hbr : b < wo.heap.size := Nat.lt_of_lt_of_le hb hg.le
      have hft : f < t ∧ t ≤ 32 := HV.out.le (f, t) (List.mem_of_getElem? hp)
      have HM := Lib.hid (maskL_take hp)
      have hml : maskL (L.take k) < 2 ^ 32 := maskL_lt (fun p hp => HV.out.le p (List.mem_of_mem_take hp))
      clear hcell
      generalize maskL (L.take k) = m at *
      have hk16 : (k : Int) ≤ 16 := by omega
      go_wp2
      have T0 := Two.new wo f t 60
      have G0 := hg.alloc (.cells #[.int .i64 f, .int .i64 t] 60)
      generalize hB : wo.heap.size = B at *
      have HB := Lib.hid hB
      clear hB c1 c2
      generalize wo.alloc (.cells #[.int .i64 f, .int .i64 t] 60) = W1 at *
      obtain ⟨t1, t2, t3⟩ := T0
      go_loop [3, 6] (fun mm nn => ∃ n : Nat, f ≤ n ∧ n ≤ t ∧ nn = .int .i64 n ∧ mm = .int .u32 (orTo m f (n - f) : Nat)) (fun _ nn => t - (intOf nn).toNat)
      case atStart => exact ⟨f, by omega, by omega, rfl, by simp [orTo]⟩
      case round =>
        obtain ⟨n, hn1, hn2, rfl, rfl⟩ := hrel
        have hol : orTo m f (n - f) < 2 ^ 32 := orTo_lt hml (by omega)
        by_cases hnt : n < t
        · have HS := Lib.hid (orTo_step m f n hn1)
          have HO := Lib.hid (or_eq (orTo m f (n - f)) n hol (by omega))
          have hn32 : (n : Int) < 32 := by omega
          clear hol
          go_wp2
          go_round
          case rel => exact ⟨n + 1, by omega, by omega, by go_num, by rw [HS.out, ← HO.out, IntKind.wrap_u32']⟩
          case measure => simp [intOf]; omega
        · obtain rfl : n = t := by omega
          clear hol
          go_wp2
          go_roundw
          case rel => exact ⟨k + 1, by omega, by go_num, by rw [HM.out], G0⟩
          case measure => simp [intOf]; omega
    · obtain rfl : k = L.length := by omega
      go_wp2
      go_ret
      exact ⟨by rw [List.take_length]; rfl, hg⟩
end Go.Proofs.Ytphcjjhfgpdhcaa
