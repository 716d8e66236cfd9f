/- The walk of SpanSays. -/
import Derived.Test.YtphcjjhfgpdhcaaSayLarge
import Derived.Test.YtphcjjhfgpdhcaaSayBad
import Derived.Test.YtphcjjhfgpdhcaaSayOk
namespace Go.Proofs.Ytphcjjhfgpdhcaa
open Go.RowKit Rm
theorem spanSays_walk (v : Value) (s : List (Int × Int)) (nums : Value) (l : List Int) (n : Int) (_w2 : (Lit.int .i64 n).wf = true) (w : World) (rl : Rd2 w v s) (rn : Rd1 w nums l) (hm : l.length ≤ maxLen) :
    Calls Try.prog 13 #[v, nums, .int .i64 n] w fun e w' => e = .returned (.bool true) ∧ Gr w w' := by
  by_cases hb : 400 < l.length
  · cases hc : (chkS s == 0)
    · exact spanSays_large_bad v nums l n w rn hm hb s rl hc
    · obtain ⟨L, rfl, hL⟩ := valid_of (by simpa using hc)
      exact spanSays_large_ok v nums l n w rn hm hb _ (MS.of rl hL)
  · cases ha : l.all numB
    · cases hc : (chkS s == 0)
      · exact spanSays_bad_bad v nums l n w rn hm (by omega) ha s rl hc
      · obtain ⟨L, rfl, hL⟩ := valid_of (by simpa using hc)
        exact spanSays_bad_ok v nums l n w rn hm (by omega) ha _ (MS.of rl hL)
    · cases hc : (chkS s == 0)
      · exact spanSays_ok_bad v nums l n w rn hm (by omega) ha s rl hc
      · obtain ⟨L, rfl, hL⟩ := valid_of (by simpa using hc)
        exact spanSays_ok_ok v nums l n w rn hm (by omega) ha _ (MS.of rl hL)
end Go.Proofs.Ytphcjjhfgpdhcaa
