import Derived.Test.YtijambehfobopaaGreatDoorWAV
import Derived.Deep.RegionLaw
import Derived.Deep.CutRange
namespace Go.Proofs.YtijambehfobopaaGreatDoor
open Go.RowKit
set_option linter.unusedVariables false
set_option linter.unusedSimpArgs false
structure WS (E B:Nat) (lv:Value) (w W:World) (ov:Value) (xs:List Value):Prop where
  bel:Below w.heap.size w W
  sz:w.heap.size + 3 ≤ W.heap.size
  lr:W.heap[w.heap.size]?=some (.cells #[.int .i64 (E:Int),.int .i64 (B:Int),lv] 29)
  rr:W.heap[w.heap.size + 1]?=some (.cells #[.int .i64 0,.int .i64 0,.slice none 0 0] 29)
  or_:W.heap[w.heap.size + 1 + 1]?=some (.cells #[.int .i64 (E:Int),.int .i64 (B:Int),ov] 29)
  own:W.ownsRow (w.heap.size + 3) 22 1 ov xs.length xs
section
variable {ok:Nat → Prop}
end
end Go.Proofs.YtijambehfobopaaGreatDoor
