import Derived.Test.YtcnicdcjdieodaaDoorRows
import Derived.Test.YtcnicdcjdieodaaDoorIntMath
import Derived.Test.YtcnicdcjdieodaaDoorNumMath
import Derived.WalkKit
import Derived.WalkSpells
import Derived.WalkLawsBesides
import Derived.Handy
import Derived.Laws.BytesArg
import Derived.Laws.IdiomStrings
namespace Go.Proofs.YtcnicdcjdieodaaDoor
open Go.RowKit Vi
set_option linter.unusedVariables false

theorem ret_int {k : IntKind} {a b : Int} (h : a = b) : Ending.returned (.int k a) = .returned (.int k b) := by rw [h]

set_option maxHeartbeats 400000 in
theorem wayOf_any (n : Int) (w : World) :
    Calls Tryd.prog 33 #[.int .i64 n] w fun e w' => e = .returned (.tuple #[.int .i64 (waySz n), .int .u8 (wayTag n)]) ∧ w' = w := by
  by_cases c1 : n ≤ 63
  · rw [(way_1 (n := n) (by omega)).1, (way_1 (n := n) (by omega)).2]
    go_enter Tryd.func33, Tryd.ntmps33
    go_wp2
    go_ret2
    exact ⟨rfl, rfl⟩
  · by_cases c2 : n ≤ 16383
    · rw [(way_2 (n := n) (by omega) (by omega)).1, (way_2 (n := n) (by omega) (by omega)).2]
      go_enter Tryd.func33, Tryd.ntmps33
      go_wp2
      go_ret2
      exact ⟨rfl, rfl⟩
    · by_cases c3 : n ≤ 4294967295
      · rw [(way_5 (n := n) (by omega) (by omega)).1, (way_5 (n := n) (by omega) (by omega)).2]
        go_enter Tryd.func33, Tryd.ntmps33
        go_wp2
        go_ret2
        exact ⟨rfl, rfl⟩
      · rw [(way_9 (n := n) (by omega)).1, (way_9 (n := n) (by omega)).2]
        go_enter Tryd.func33, Tryd.ntmps33
        go_wp2
        go_ret2
        exact ⟨rfl, rfl⟩

set_option maxHeartbeats 400000 in
theorem formOf_yes (x : Int) (h0 : 192 ≤ x) (h1 : x ≤ 195) (w : World) :
    Calls Tryd.prog 34 #[.int .u8 x] w fun e w' => e = .returned (.tuple #[.int .i64 (x - 192), .bool true]) ∧ w' = w := by
  go_enter Tryd.func34, Tryd.ntmps34
  go_wp2
  go_ret2
  exact ⟨rfl, rfl⟩
set_option maxHeartbeats 400000 in
theorem formOf_lo (x : Int) (hx : 0 ≤ x) (h0 : x < 192) (w : World) :
    Calls Tryd.prog 34 #[.int .u8 x] w fun e w' => e = .returned (.tuple #[.int .i64 0, .bool false]) ∧ w' = w := by
  go_enter Tryd.func34, Tryd.ntmps34
  go_wp2
  go_ret2
  exact ⟨rfl, rfl⟩
set_option maxHeartbeats 400000 in
theorem formOf_hi (x : Int) (h0 : 196 ≤ x) (h1 : x ≤ 255) (w : World) :
    Calls Tryd.prog 34 #[.int .u8 x] w fun e w' => e = .returned (.tuple #[.int .i64 0, .bool false]) ∧ w' = w := by
  go_enter Tryd.func34, Tryd.ntmps34
  go_wp2
  go_ret2
  exact ⟨rfl, rfl⟩
theorem formOf_no (x : Int) (h : (0 ≤ x ∧ x < 192) ∨ (196 ≤ x ∧ x ≤ 255)) (w : World) :
    Calls Tryd.prog 34 #[.int .u8 x] w fun e w' => e = .returned (.tuple #[.int .i64 0, .bool false]) ∧ w' = w := by
  rcases h with h | h
  · exact formOf_lo x h.1 h.2 w
  · exact formOf_hi x h.1 h.2 w
set_option maxHeartbeats 400000 in
theorem lenSize_1 (x : Int) (hx : 0 ≤ x) (h : x < 64) (w : World) :
    Calls Tryd.prog 35 #[.int .u8 x] w fun e w' => e = .returned (.int .i64 1) ∧ w' = w := by
  go_enter Tryd.func35, Tryd.ntmps35
  go_wp2
  go_ret
  exact ⟨rfl, rfl⟩
set_option maxHeartbeats 400000 in
theorem lenSize_2 (x : Int) (h0 : 64 ≤ x) (h : x < 128) (w : World) :
    Calls Tryd.prog 35 #[.int .u8 x] w fun e w' => e = .returned (.int .i64 2) ∧ w' = w := by
  go_enter Tryd.func35, Tryd.ntmps35
  go_wp2
  go_ret
  exact ⟨rfl, rfl⟩
set_option maxHeartbeats 400000 in
theorem lenSize_5 (w : World) :
    Calls Tryd.prog 35 #[.int .u8 128] w fun e w' => e = .returned (.int .i64 5) ∧ w' = w := by
  go_enter Tryd.func35, Tryd.ntmps35
  go_wp2
  go_ret
  exact ⟨rfl, rfl⟩
set_option maxHeartbeats 400000 in
theorem lenSize_9 (w : World) :
    Calls Tryd.prog 35 #[.int .u8 129] w fun e w' => e = .returned (.int .i64 9) ∧ w' = w := by
  go_enter Tryd.func35, Tryd.ntmps35
  go_wp2
  go_ret
  exact ⟨rfl, rfl⟩
set_option maxHeartbeats 400000 in
theorem lenSize_0 (x : Int) (h : 130 ≤ x) (w : World) :
    Calls Tryd.prog 35 #[.int .u8 x] w fun e w' => e = .returned (.int .i64 0) ∧ w' = w := by
  have t1 : (x == 128) = false := by simp; omega
  have t2 : (x == 129) = false := by simp; omega
  go_enter Tryd.func35, Tryd.ntmps35
  go_wp2
  go_ret
  exact ⟨rfl, rfl⟩

set_option maxHeartbeats 400000 in
theorem leastForm_0 (n : Int) (h0 : -128 ≤ n) (h1 : n < 128) (w : World) :
    Calls Tryd.prog 37 #[.int .i64 n] w fun e w' => e = .returned (.tuple #[.int .i64 0, .bool true]) ∧ w' = w := by
  go_enter Tryd.func37, Tryd.ntmps37
  go_wp2
  go_rounds 4
  go_ret2
  exact ⟨rfl, rfl⟩
set_option maxHeartbeats 400000 in
theorem leastForm_1 (n : Int) (h0 : ¬ (-128 ≤ n ∧ n < 128)) (h1 : -32768 ≤ n) (h2 : n < 32768) (w : World) :
    Calls Tryd.prog 37 #[.int .i64 n] w fun e w' => e = .returned (.tuple #[.int .i64 1, .bool true]) ∧ w' = w := by
  rcases (show n < -128 ∨ 128 ≤ n by omega) with c | c
  · have d0 : n < -128 := by omega
    clear h0
    go_enter Tryd.func37, Tryd.ntmps37
    go_wp2
    go_rounds 4
    go_ret2
    exact ⟨rfl, rfl⟩
  · have d0 : 128 ≤ n := by omega
    clear h0
    go_enter Tryd.func37, Tryd.ntmps37
    go_wp2
    go_rounds 4
    go_ret2
    exact ⟨rfl, rfl⟩
set_option maxHeartbeats 400000 in
theorem leastForm_2 (n : Int) (h0 : ¬ (-32768 ≤ n ∧ n < 32768)) (h1 : -2147483648 ≤ n) (h2 : n < 2147483648) (w : World) :
    Calls Tryd.prog 37 #[.int .i64 n] w fun e w' => e = .returned (.tuple #[.int .i64 2, .bool true]) ∧ w' = w := by
  rcases (show n < -32768 ∨ 32768 ≤ n by omega) with c | c
  · have d0 : n < -128 := by omega
    have d1 : n < -32768 := by omega
    clear h0
    go_enter Tryd.func37, Tryd.ntmps37
    go_wp2
    go_rounds 4
    go_ret2
    exact ⟨rfl, rfl⟩
  · have d0 : 128 ≤ n := by omega
    have d1 : 32768 ≤ n := by omega
    clear h0
    go_enter Tryd.func37, Tryd.ntmps37
    go_wp2
    go_rounds 4
    go_ret2
    exact ⟨rfl, rfl⟩
set_option maxHeartbeats 400000 in
theorem leastForm_9 (n : Int) (h0 : ¬ (-2147483648 ≤ n ∧ n < 2147483648)) (w : World) :
    Calls Tryd.prog 37 #[.int .i64 n] w fun e w' => e = .returned (.tuple #[.int .i64 0, .bool false]) ∧ w' = w := by
  rcases (show n < -2147483648 ∨ 2147483648 ≤ n by omega) with c | c
  · have d0 : n < -128 := by omega
    have d1 : n < -32768 := by omega
    have d2 : n < -2147483648 := by omega
    clear h0
    go_enter Tryd.func37, Tryd.ntmps37
    go_wp2
    go_rounds 4
    go_ret2
    exact ⟨rfl, rfl⟩
  · have d0 : 128 ≤ n := by omega
    have d1 : 32768 ≤ n := by omega
    have d2 : 2147483648 ≤ n := by omega
    clear h0
    go_enter Tryd.func37, Tryd.ntmps37
    go_wp2
    go_rounds 4
    go_ret2
    exact ⟨rfl, rfl⟩
end Go.Proofs.YtcnicdcjdieodaaDoor
