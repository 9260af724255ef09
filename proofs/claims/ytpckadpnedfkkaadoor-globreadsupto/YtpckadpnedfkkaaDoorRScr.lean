import Derived.Test.YtpckadpnedfkkaaDoorRNum4
import Derived.Test.YtpckadpnedfkkaaDoorGBound
namespace Go.Proofs.YtpckadpnedfkkaaDoor
open Go.RowKit Vi Gb
set_option linter.unusedVariables false
set_option maxHeartbeats 400000 in
set_option maxRecDepth 20000 in
theorem rscore_any (s : ByteArray) (hs : s.size ≤ 281474976710656) (w : World) :
    Calls Tryd.prog 13 #[.string s] w fun e w' => e = .returned (scoreT s.data.toList) ∧ Below w.heap.size w w' := by
  have HN : Hid _ := refNumber_any s (by unfold maxLen; omega) w
  cases hn : numberOf s.data.toList with
  | none =>
    rw [numT_none hn] at HN
    have HR : Hid _ := scoreT_none (scoreOf_no hn)
    clear hn
    go_enter Tryd.func13, Tryd.ntmps13
    go_wp2_with fail
    refine (show Calls _ _ _ _ _ from HN.out).mono ?_
    rintro e w1 ⟨rfl, hb1⟩
    go_wp2
    go_ret2
    exact ⟨by rw [HR.out]; rfl, hb1⟩
  | some v =>
    rw [numT_some hn] at HN
    by_cases h1 : v < -9007199254740991
    · have HR : Hid _ := scoreT_none (scoreOf_out hn (by omega))
      clear hn
      go_enter Tryd.func13, Tryd.ntmps13
      go_wp2_with fail
      refine (show Calls _ _ _ _ _ from HN.out).mono ?_
      rintro e w1 ⟨rfl, hb1⟩
      go_wp2
      go_ret2
      exact ⟨by rw [HR.out]; rfl, hb1⟩
    · by_cases h2 : 9007199254740991 < v
      · have HR : Hid _ := scoreT_none (scoreOf_out hn (by omega))
        clear hn
        go_enter Tryd.func13, Tryd.ntmps13
        go_wp2_with fail
        refine (show Calls _ _ _ _ _ from HN.out).mono ?_
        rintro e w1 ⟨rfl, hb1⟩
        go_wp2
        go_ret2
        exact ⟨by rw [HR.out]; rfl, hb1⟩
      · have HR : Hid _ := scoreT_some (scoreOf_in hn (by omega) (by omega))
        clear hn
        go_enter Tryd.func13, Tryd.ntmps13
        go_wp2_with fail
        refine (show Calls _ _ _ _ _ from HN.out).mono ?_
        rintro e w1 ⟨rfl, hb1⟩
        go_wp2
        go_ret2
        exact ⟨by rw [HR.out]; rfl, hb1⟩
end Go.Proofs.YtpckadpnedfkkaaDoor
