import Derived.Test.YtnnpnccnpojfmaaTbS
import Derived.Test.YtnnpnccnpojfmaaTbR
namespace Go.Proofs.Ytnnpnccnpojfmaa
open Go.RowKit
set_option linter.unusedVariables false
set_option linter.unusedSimpArgs false
def shwL (s : ByteArray) (k : Nat) : List UInt8 := (s.data.toList.take k).map TB.shw1
theorem shwL_more (s : ByteArray) (k : Nat) (h : k < s.size) : shwL s (k + 1) = shwL s k ++ [TB.shw1 s[k]] := by
  unfold shwL
  rw [List.take_add_one, at_list s k h, List.map_append]; rfl
theorem shwL_len (s : ByteArray) (k : Nat) : (shwL s k).length ≤ s.size := by unfold shwL; rw [List.length_map, List.length_take, list_len]; omega
end Go.Proofs.Ytnnpnccnpojfmaa
