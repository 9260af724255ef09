import Derived.Test.YtbmfbpcjokbjkaaDoorPcL
import Derived.Test.YtbmfbpcjokbjkaaDoorBulkN
namespace Go.Proofs.YtbmfbpcjokbjkaaDoor
open Go.RowKit
set_option linter.unusedVariables false
theorem pieces_frame (t : ByteArray) (v1 : Value) (zs : List Int) (z0 : t.size ≤ 1048576) (hzl : zs.length ≤ 1048576) (hzb : ∀ z ∈ zs, -9223372036854775808 ≤ z ∧ z ≤ 9223372036854775807) (w : World) (hN : NV w v1 zs) (_ : True) (hL : Laid w) :
    Calls Tryd.prog 3 #[.string t, v1] w fun e w' => e = .returned (.bool true) ∧ Below w.heap.size w w' := RespPieces_walk t v1 zs z0 hzl hzb w hN hL
end Go.Proofs.YtbmfbpcjokbjkaaDoor
