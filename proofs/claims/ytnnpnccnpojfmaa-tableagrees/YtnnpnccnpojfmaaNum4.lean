import Derived.Test.YtnnpnccnpojfmaaRB
import Derived.Test.YtnnpnccnpojfmaaNumMath
namespace Go.Proofs.Ytnnpnccnpojfmaa
open Go.RowKit Vi
set_option linter.unusedVariables false
def tl (l : List UInt8) : List UInt8 := l.drop 1
theorem head_tl (s : ByteArray) (h : 0 < s.size) : s.data.toList = s[0] :: tl s.data.toList := by
  have := drop_more s.data.toList 0 s[0] (at_list s 0 h)
  simpa [tl] using this
theorem full_str (s : ByteArray) (h : 0 < s.size) : s.toList.isEmpty = false := by
  rw [ByteArray.toList_eq, head_tl s h]; rfl
theorem empty_str (s : ByteArray) (h : s.size = 0) : s = ⟨#[]⟩ := by
  apply WideShapes.bytes_inj
  have := list_len s
  rw [h] at this
  rw [List.length_eq_zero_iff.1 this]
def numT (l : List UInt8) : Value := match numberOf l with
  | some v => .tuple #[.int .i64 v, .bool true]
  | none => .tuple #[.int .i64 0, .bool false]
theorem numT_some {l : List UInt8} {v : Int} (h : numberOf l = some v) : numT l = .tuple #[.int .i64 v, .bool true] := by unfold numT; rw [h]
theorem numT_none {l : List UInt8} (h : numberOf l = none) : numT l = .tuple #[.int .i64 0, .bool false] := by unfold numT; rw [h]

end Go.Proofs.Ytnnpnccnpojfmaa
