import Derived.Test.YtgbplghokciimaaDoorRA
namespace Go.Proofs.YtgbplghokciimaaDoor
open Go.RowKit
set_option linter.unusedVariables false
abbrev bdV (b : SBd) : Value := .agg #[.int .i64 b.1, .int .i64 b.2.1, .bool b.2.2]
set_option maxHeartbeats 2000000 in
set_option maxRecDepth 100000 in
theorem rInScore_any (s : Int) (lo hi : SBd) (w : World) : Calls Tryd.prog 75 #[.int .i64 s, bdV lo, bdV hi] w fun e w' => e = .returned (.bool (loS s lo && hiS s hi)) ∧ Below w.heap.size w w' := by
  obtain ⟨ls, li, lop⟩ := lo
  obtain ⟨hs, hi2, hop⟩ := hi
  go_enter Tryd.func75, Tryd.ntmps75
  go_wp2
  all_goals
    go_returns
    refine ⟨?_, ?_⟩
    · first
      | (simp [loS, hiS, *]; done)
      | (simp [loS, hiS, *]; omega)
    · repeat (refine Below.alloc ?_ (by simp <;> omega) _)
      exact Below.refl _ _
end Go.Proofs.YtgbplghokciimaaDoor
