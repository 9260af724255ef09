import Derived.Test.YthjcbolbbdclnaaBase
import Derived.Test.YthjcbolbbdclnaaPackMath
namespace Go.Proofs.Ythjcbolbbdclnaa
open Go.RowKit Lz
set_option linter.unusedVariables false
def headV (a b c : Int) (ok : Bool) : Value := .tuple #[.agg #[.int .i64 a, .int .i64 b, .int .i64 c], .bool ok]
set_option maxHeartbeats 1000000 in
set_option maxRecDepth 20000 in
theorem headOf_run (p : ByteArray) (c : Nat) (hp : 0 < p.size) (hm : p.size ≤ 140737488355328) (e0 : p[0].toNat = c) (w : World) (hc : c < 32) :
    Calls Try.prog 13 #[.string p] w fun e w' => e = .returned (headV 1 (c + 1) 0 true) ∧ Below w.heap.size w w' := by
  go_enter Try.func13, Try.ntmps13
  go_wp2
  refine bodyPost_ret (v := headV 1 (c + 1) 0 true) (by simp [results, Try.results13, go_sem, headV]) rfl ⟨rfl, ?_⟩
  go_grown
set_option maxHeartbeats 1000000 in
set_option maxRecDepth 20000 in
theorem headOf_short2 (p : ByteArray) (c q r : Nat) (hp : 0 < p.size) (hm : p.size < 2) (e0 : p[0].toNat = c) (hc : c = 32 * q + r) (hr : r < 32) (hq : 1 ≤ q) (hq2 : q < 7) (w : World) :
    Calls Try.prog 13 #[.string p] w fun e w' => e = .returned (headV 0 0 0 false) ∧ Below w.heap.size w w' := by
  have h1 : (c : Int) / 32 = (q : Int) := by omega
  have h2 : 32 ≤ (c : Int) := by omega
  have h3 : (c : Int) < 256 := by omega
  have h4 : (c : Int) % 32 = (r : Int) := by omega
  clear hc
  go_enter Try.func13, Try.ntmps13
  go_wp2
  refine bodyPost_ret (v := headV 0 0 0 false) (by simp [results, Try.results13, go_sem, headV]) rfl ⟨rfl, ?_⟩
  go_grown
set_option maxHeartbeats 1000000 in
set_option maxRecDepth 20000 in
theorem headOf_full2 (p : ByteArray) (c q r y : Nat) (hp : 1 < p.size) (hm : p.size ≤ 140737488355328) (e0 : p[0].toNat = c) (e1 : p[1].toNat = y) (hy : y < 256) (hc : c = 32 * q + r) (hr : r < 32) (hq : 1 ≤ q) (hq2 : q < 7) (w : World) :
    Calls Try.prog 13 #[.string p] w fun e w' => e = .returned (headV 2 (q + 2) (r * 256 + y + 1) true) ∧ Below w.heap.size w w' := by
  have h1 : (c : Int) / 32 = (q : Int) := by omega
  have h2 : 32 ≤ (c : Int) := by omega
  have h3 : (c : Int) < 256 := by omega
  have h4 : (c : Int) % 32 = (r : Int) := by omega
  clear hc
  go_enter Try.func13, Try.ntmps13
  go_wp2
  refine bodyPost_ret (v := headV 2 (q + 2) (r * 256 + y + 1) true) (by simp [results, Try.results13, go_sem, headV]) rfl ⟨rfl, ?_⟩
  go_grown
set_option maxHeartbeats 1000000 in
set_option maxRecDepth 20000 in
theorem headOf_short3 (p : ByteArray) (c r : Nat) (hp : 0 < p.size) (hm : p.size < 3) (e0 : p[0].toNat = c) (hc : c = 224 + r) (hr : r < 32) (w : World) :
    Calls Try.prog 13 #[.string p] w fun e w' => e = .returned (headV 0 0 0 false) ∧ Below w.heap.size w w' := by
  have h1 : (c : Int) / 32 = 7 := by omega
  have h2 : 32 ≤ (c : Int) := by omega
  have h3 : (c : Int) < 256 := by omega
  have h4 : (c : Int) % 32 = (r : Int) := by omega
  clear hc
  go_enter Try.func13, Try.ntmps13
  go_wp2
  refine bodyPost_ret (v := headV 0 0 0 false) (by simp [results, Try.results13, go_sem, headV]) rfl ⟨rfl, ?_⟩
  go_grown
set_option maxHeartbeats 1000000 in
set_option maxRecDepth 20000 in
theorem headOf_full3 (p : ByteArray) (c r x y : Nat) (hp : 2 < p.size) (hm : p.size ≤ 140737488355328) (e0 : p[0].toNat = c) (e1 : p[1].toNat = x) (e2 : p[2].toNat = y) (hx : x < 256) (hy : y < 256) (hc : c = 224 + r) (hr : r < 32) (w : World) :
    Calls Try.prog 13 #[.string p] w fun e w' => e = .returned (headV 3 (9 + x) (r * 256 + y + 1) true) ∧ Below w.heap.size w w' := by
  have h1 : (c : Int) / 32 = 7 := by omega
  have h2 : 32 ≤ (c : Int) := by omega
  have h3 : (c : Int) < 256 := by omega
  have h4 : (c : Int) % 32 = (r : Int) := by omega
  clear hc
  go_enter Try.func13, Try.ntmps13
  go_wp2
  go_region
  all_goals
    go_wp2
    refine bodyPost_ret (v := headV 3 (9 + x) (r * 256 + y + 1) true) (by simp [results, Try.results13, go_sem, headV]) rfl ⟨rfl, ?_⟩
    go_grown
end Go.Proofs.Ythjcbolbbdclnaa
