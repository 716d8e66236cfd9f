/- TextBoth: of two texts with a sign the filter is what both have in common, or together; with a ! ahead what is left of all. -/
import Derived.Test.YtbodadddcbbjeaaTBothB
import Derived.Test.YtbodadddcbbjeaaTBothC
import Derived.Test.YtbodadddcbbjeaaTBothD
import Derived.Test.YtbodadddcbbjeaaTBothE
namespace Go.Proofs.Ytbodadddcbbjeaa
open Go.RowKit Rm
theorem textBoth_walk (s t : List UInt8) (hs : s.length ≤ 2 ^ 47) (ht : t.length ≤ 2 ^ 47) (W : World) :
    Calls Try.prog 4 #[.string (str s), .string (str t)] W fun e W' => e = .returned (.bool true) ∧ Gr W W' := by
  have A := adds2 s t hs ht
  by_cases h1 : (readL s).1 = 0
  · by_cases h2 : (readL t).1 = 0
    · obtain ⟨T, hT, _, s4, c1, e1⟩ := readL_ok h1
      obtain ⟨U, hU, _, t4, c2, e2⟩ := readL_ok h2
      have l1 : (readL s).2.length ≤ 30 := by rw [e1, nodesAt_len]; exact c1
      have l2 : (readL t).2.length ≤ 30 := by rw [e2, nodesAt_len]; exact c2
      have k1 : OkL (readL s).2 := by rw [e1]; exact nodes_okL hT c1
      have k2 : OkL (readL t).2 := by rw [e2]; exact nodes_okL hU c2
      rcases read_pair h1 h2 with ⟨h3, h4, k3, k4, f3, f4, x1, x2⟩ | ⟨h3, h4, hc⟩
      · rcases read_not h1 with ⟨h5, k5, f5⟩ | ⟨_, h6⟩
        · exact tboth_f s t _ _ _ _ _ _ _ _ _ _ _ _ _ A (reads_as _) (reads_as _) (reads_as _) (reads_as _) (reads_as _) h1 h2 l1 l2 s4 t4 h3 h4 h5 k1 k2 k3 k4 k5 f3 f4 f5 W
        · omega
      · rcases read_not h1 with ⟨h5, k5, f5⟩ | ⟨h5, h6⟩
        · rcases Nat.lt_or_ge ((readL s).2.length + (readL t).2.length) 30 with d | d
          · exact tboth_l2 s t _ _ _ _ _ _ _ _ _ _ _ _ _ A (reads_as _) (reads_as _) (reads_as _) (reads_as _) (reads_as _) h1 h2 l1 l2 s4 t4 h3 h4 h5 k1 k5 f5 d (by omega) W
          · exact tboth_l1 s t _ _ _ _ _ _ _ _ _ _ _ _ _ A (reads_as _) (reads_as _) (reads_as _) (reads_as _) (reads_as _) h1 h2 l1 l2 s4 t4 h3 h4 h5 k1 k5 f5 d W
        · rcases Nat.lt_or_ge (readL s).2.length 30 with d0 | d0
          · rcases Nat.lt_or_ge ((readL s).2.length + (readL t).2.length) 30 with d | d
            · exact tboth_n3 s t _ _ _ _ _ _ _ _ _ _ _ _ _ A (reads_as _) (reads_as _) (reads_as _) (reads_as _) (reads_as _) h1 h2 l1 l2 s4 t4 h3 h4 h5 d0 (by omega) d (by omega) W
            · exact tboth_n2 s t _ _ _ _ _ _ _ _ _ _ _ _ _ A (reads_as _) (reads_as _) (reads_as _) (reads_as _) (reads_as _) h1 h2 l1 l2 s4 t4 h3 h4 h5 d0 (by omega) d W
          · exact tboth_n1 s t _ _ _ _ _ _ _ _ _ _ _ _ _ A (reads_as _) (reads_as _) (reads_as _) (reads_as _) (reads_as _) h1 h2 l1 l2 s4 t4 h3 h4 h5 d0 (by omega) W
    · obtain ⟨h3, h4⟩ := read_apart h1 h2
      exact tboth_2 s t _ _ _ _ _ _ _ _ _ _ _ _ _ A (reads_as _) (reads_as _) (reads_as _) (reads_as _) (reads_as _) h1 h2 h3 h4 W
  · exact tboth_1 s t _ _ _ _ _ _ _ _ _ _ _ _ _ A (reads_as _) (reads_as _) (reads_as _) (reads_as _) (reads_as _) h1 (readL_bad h1) W
end Go.Proofs.Ytbodadddcbbjeaa
