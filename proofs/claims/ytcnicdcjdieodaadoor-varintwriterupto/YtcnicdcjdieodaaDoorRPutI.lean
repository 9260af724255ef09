import Derived.Test.YtcnicdcjdieodaaDoorPut
namespace Go.Proofs.YtcnicdcjdieodaaDoor
open Go.RowKit Vi
set_option linter.unusedVariables false

def intB (n : Int) : ByteArray := ⟨(intL n).toArray⟩
theorem intB_0 {n : Int} (h : -128 ≤ n ∧ n < 128) : intB n = ⟨(192 :: leZ n 1).toArray⟩ := by unfold intB; rw [intL_0 h]
theorem intB_1 {n : Int} (h0 : ¬ (-128 ≤ n ∧ n < 128)) (h : -32768 ≤ n ∧ n < 32768) : intB n = ⟨(193 :: leZ n 2).toArray⟩ := by unfold intB; rw [intL_1 h0 h]
theorem intB_2 {n : Int} (h0 : ¬ (-32768 ≤ n ∧ n < 32768)) : intB n = ⟨(194 :: leZ n 4).toArray⟩ := by unfold intB; rw [intL_2 h0]
set_option maxHeartbeats 400000 in
theorem refPutInt_0 (n : Int) (h0 : -128 ≤ n) (h1 : n < 128) (w : World) :
    Calls Tryd.prog 17 #[.int .i64 n] w fun e w' => e = .returned (.tuple #[.string (intB n), .bool true]) ∧ Below w.heap.size w w' := by
  have HB : Hid _ := intB_0 ⟨h0, h1⟩
  have HC : Hid _ := cons_str 192 (leZ n 1)
  go_enter Tryd.func17, Tryd.ntmps17
  go_wp2_with fail
  refine (low_any n 1 (by omega) (by omega) (by omega) (by omega) _).mono ?_
  rintro e w1 ⟨rfl, hb1⟩
  go_wp2
  go_ret2
  exact ⟨by rw [HB.out, ← HC.out]; rfl, hb1⟩
set_option maxHeartbeats 400000 in
theorem refPutInt_1 (n : Int) (h0 : ¬ (-128 ≤ n ∧ n < 128)) (h1 : -32768 ≤ n) (h2 : n < 32768) (w : World) :
    Calls Tryd.prog 17 #[.int .i64 n] w fun e w' => e = .returned (.tuple #[.string (intB n), .bool true]) ∧ Below w.heap.size w w' := by
  have HB : Hid _ := intB_1 h0 ⟨h1, h2⟩
  have HC : Hid _ := cons_str 193 (leZ n 2)
  rcases (show n < -128 ∨ 128 ≤ n by omega) with c | c
  · have d0 : n < -128 := by omega
    clear h0
    go_enter Tryd.func17, Tryd.ntmps17
    go_wp2_with fail
    refine (low_any n 2 (by omega) (by omega) (by omega) (by omega) _).mono ?_
    rintro e w1 ⟨rfl, hb1⟩
    go_wp2
    go_ret2
    exact ⟨by rw [HB.out, ← HC.out]; rfl, hb1⟩
  · have d0 : 128 ≤ n := by omega
    clear h0
    go_enter Tryd.func17, Tryd.ntmps17
    go_wp2_with fail
    refine (low_any n 2 (by omega) (by omega) (by omega) (by omega) _).mono ?_
    rintro e w1 ⟨rfl, hb1⟩
    go_wp2
    go_ret2
    exact ⟨by rw [HB.out, ← HC.out]; rfl, hb1⟩
set_option maxHeartbeats 400000 in
theorem refPutInt_2 (n : Int) (h0 : ¬ (-32768 ≤ n ∧ n < 32768)) (h1 : -2147483648 ≤ n) (h2 : n < 2147483648) (w : World) :
    Calls Tryd.prog 17 #[.int .i64 n] w fun e w' => e = .returned (.tuple #[.string (intB n), .bool true]) ∧ Below w.heap.size w w' := by
  have HB : Hid _ := intB_2 h0
  have HC : Hid _ := cons_str 194 (leZ n 4)
  rcases (show n < -32768 ∨ 32768 ≤ n by omega) with c | c
  · have d0 : n < -128 := by omega
    have d1 : n < -32768 := by omega
    clear h0
    go_enter Tryd.func17, Tryd.ntmps17
    go_wp2_with fail
    refine (low_any n 4 (by omega) (by omega) (by omega) (by omega) _).mono ?_
    rintro e w1 ⟨rfl, hb1⟩
    go_wp2
    go_ret2
    exact ⟨by rw [HB.out, ← HC.out]; rfl, hb1⟩
  · have d0 : 128 ≤ n := by omega
    have d1 : 32768 ≤ n := by omega
    clear h0
    go_enter Tryd.func17, Tryd.ntmps17
    go_wp2_with fail
    refine (low_any n 4 (by omega) (by omega) (by omega) (by omega) _).mono ?_
    rintro e w1 ⟨rfl, hb1⟩
    go_wp2
    go_ret2
    exact ⟨by rw [HB.out, ← HC.out]; rfl, hb1⟩
set_option maxHeartbeats 400000 in
theorem refPutInt_none (n : Int) (h0 : ¬ (-2147483648 ≤ n ∧ n < 2147483648)) (w : World) :
    Calls Tryd.prog 17 #[.int .i64 n] w fun e w' => e = .returned (.tuple #[.string ⟨#[]⟩, .bool false]) ∧ w' = w := by
  rcases (show n < -2147483648 ∨ 2147483648 ≤ n by omega) with c | c
  · have d0 : n < -128 := by omega
    have d1 : n < -32768 := by omega
    have d2 : n < -2147483648 := by omega
    clear h0
    go_enter Tryd.func17, Tryd.ntmps17
    go_wp2
    go_ret2
    exact ⟨rfl, rfl⟩
  · have d0 : 128 ≤ n := by omega
    have d1 : 32768 ≤ n := by omega
    have d2 : 2147483648 ≤ n := by omega
    clear h0
    go_enter Tryd.func17, Tryd.ntmps17
    go_wp2
    go_ret2
    exact ⟨rfl, rfl⟩
theorem refPutInt_ok (n : Int) (h0 : -2147483648 ≤ n) (h1 : n < 2147483648) (w : World) :
    Calls Tryd.prog 17 #[.int .i64 n] w fun e w' => e = .returned (.tuple #[.string (intB n), .bool true]) ∧ Below w.heap.size w w' := by
  by_cases c1 : -128 ≤ n ∧ n < 128
  · exact refPutInt_0 n c1.1 c1.2 w
  · by_cases c2 : -32768 ≤ n ∧ n < 32768
    · exact refPutInt_1 n c1 c2.1 c2.2 w
    · exact refPutInt_2 n c2 h0 h1 w
end Go.Proofs.YtcnicdcjdieodaaDoor
