import Derived.Test.YtijambehfobopaaGreatDoorDH
namespace Go.Proofs.YtijambehfobopaaGreatDoor
open Go.RowKit
set_option linter.unusedVariables false
set_option linter.unusedSimpArgs false
def okT (b:Nat) (W:World) (k:Nat):Prop:=b ≤ k∧∃ cs,W.heap[k]?=some (.cells cs 9)
section
variable {ok:Nat → Prop}
end
end Go.Proofs.YtijambehfobopaaGreatDoor
