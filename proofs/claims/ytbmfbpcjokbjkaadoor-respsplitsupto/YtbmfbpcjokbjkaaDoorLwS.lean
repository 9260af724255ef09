import Derived.Test.YtbmfbpcjokbjkaaDoorWkA
namespace Go.Proofs.YtbmfbpcjokbjkaaDoor
open Go.RowKit
set_option linter.unusedVariables false
theorem RespSplits_walk (a0 : ByteArray) (z0 : a0.size ≤ 1048576) (w : World) (hL : Laid w) : Calls Tryd.prog 5 #[.string a0] w fun e w' => e = .returned (.bool true) ∧ Below w.heap.size w w' :=
  splits_of (fun w hL => works_any w hL) a0 (by omega) w hL
end Go.Proofs.YtbmfbpcjokbjkaaDoor
