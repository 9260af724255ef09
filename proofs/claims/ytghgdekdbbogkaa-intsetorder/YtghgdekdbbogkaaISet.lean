import Derived.Test.YtghgdekdbbogkaaIWord
import Derived.Deep.RegionWith
namespace Go.Proofs.Ytghgdekdbbogkaa
open Go.RowKit IM
set_option linter.unusedVariables false
def setV (p : ByteArray) (W C : Nat) : Value := .agg #[.string p, .int .i64 (W : Int), .int .i64 (C : Int)]
theorem word_split (l : List UInt8) (W i : Nat) (hW : W ≤ 8) (h : 8 + (i + 1) * W ≤ l.length) : leN ((l.drop ((i + 1) * W)).take 8) = leN ((l.drop ((i + 1) * W)).take (8 - W)) + 256 ^ (8 - W) * leN ((l.drop (8 + i * W)).take W) := by
  have e : (l.drop ((i + 1) * W)).take 8 = (l.drop ((i + 1) * W)).take (8 - W) ++ (l.drop (8 + i * W)).take W := by
    conv => lhs; rw [show 8 = (8 - W) + W by omega, List.take_add]
    rw [List.drop_drop]
    congr 3
    rw [Nat.succ_mul]; omega
  rw [e, leN_app, List.length_take, List.length_drop]
  rw [show min (8 - W) (l.length - (i + 1) * W) = 8 - W by omega]
set_option maxHeartbeats 1000000 in
set_option maxRecDepth 100000 in
theorem begin_2 (p : ByteArray) (C i : Nat) (hi : i ≤ 4294967296) (w : World) :
    Calls Try.prog 47 #[.agg #[.string p, .int .i64 2, .int .i64 (C : Int)], .int .i64 i] w fun e w' => e = .returned (.int .i64 (8 + (i : Int) * 2)) ∧ w' = w.alloc (.cells #[.string p, .int .i64 2, .int .i64 (C : Int)] 58) := by
  go_enter Try.func47, Try.ntmps47
  go_wp2
  go_ret
  exact ⟨rfl, rfl⟩
set_option maxHeartbeats 1000000 in
set_option maxRecDepth 100000 in
theorem begin_4 (p : ByteArray) (C i : Nat) (hi : i ≤ 4294967296) (w : World) :
    Calls Try.prog 47 #[.agg #[.string p, .int .i64 4, .int .i64 (C : Int)], .int .i64 i] w fun e w' => e = .returned (.int .i64 (8 + (i : Int) * 4)) ∧ w' = w.alloc (.cells #[.string p, .int .i64 4, .int .i64 (C : Int)] 58) := by
  go_enter Try.func47, Try.ntmps47
  go_wp2
  go_ret
  exact ⟨rfl, rfl⟩
set_option maxHeartbeats 1000000 in
set_option maxRecDepth 100000 in
theorem begin_8 (p : ByteArray) (C i : Nat) (hi : i ≤ 4294967296) (w : World) :
    Calls Try.prog 47 #[.agg #[.string p, .int .i64 8, .int .i64 (C : Int)], .int .i64 i] w fun e w' => e = .returned (.int .i64 (8 + (i : Int) * 8)) ∧ w' = w.alloc (.cells #[.string p, .int .i64 8, .int .i64 (C : Int)] 58) := by
  go_enter Try.func47, Try.ntmps47
  go_wp2
  go_ret
  exact ⟨rfl, rfl⟩
theorem cell_below {B : Nat} {w w' : World} (h : Below B w w') {a : Addr} (ha : a.block < B) : w'.cell? a = w.cell? a := World.cell?_of_block (h.block _ ha)
end Go.Proofs.Ytghgdekdbbogkaa
