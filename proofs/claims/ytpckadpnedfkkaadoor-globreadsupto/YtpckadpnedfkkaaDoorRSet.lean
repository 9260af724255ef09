import Derived.Test.YtpckadpnedfkkaaDoorRSetA
import Derived.Test.YtpckadpnedfkkaaDoorRSetB
import Derived.Test.YtpckadpnedfkkaaDoorRSetC
namespace Go.Proofs.YtpckadpnedfkkaaDoor
open Go.RowKit Gb
set_option linter.unusedVariables false
theorem rset_any (s : ByteArray) (i0 : Nat) (hi0 : i0 ≤ s.size) (hm : s.size ≤ 3000000) (w : World) :
    Calls Tryd.prog 29 #[.string s, .int .i64 (i0 : Int)] w fun e w' => ∃ x : Nat, e = .returned (.tuple #[.agg (bt (setF (s.data.toList.drop i0)).1), .int .i64 (x : Int)]) ∧ x ≤ s.size ∧ s.data.toList.drop x = (setF (s.data.toList.drop i0)).2 ∧ Below w.heap.size w w' := by
  by_cases h : over (s.data.toList.drop i0) = true
  · exact rset_over s i0 hi0 h hm w
  · by_cases hz : i0 = s.size
    · exact rset_none s i0 hz (by simpa using h) hm w
    · exact rset_some s i0 (by omega) (by simpa using h) hm w
end Go.Proofs.YtpckadpnedfkkaaDoor
