import Derived.Test.YtcnicdcjdieodaaDoorRPutI
namespace Go.Proofs.YtcnicdcjdieodaaDoor
open Go.RowKit Vi
set_option linter.unusedVariables false

set_option maxHeartbeats 400000 in
theorem putInt_none (n : Int) (h0 : ¬ (-2147483648 ≤ n ∧ n < 2147483648)) (w : World) :
    Calls Tryd.prog 11 #[.int .i64 n] w fun e w' => e = .returned (.tuple #[.string ⟨#[]⟩, .bool false]) ∧ w' = w := by
  have HW : Hid _ := leastForm_9 n h0
  clear h0
  go_enter Tryd.func11, Tryd.ntmps11
  go_wp2_with fail
  refine (HW.out _).mono ?_
  rintro e w1 ⟨rfl, rfl⟩
  go_wp2
  go_ret2
  exact ⟨rfl, rfl⟩
theorem conv5 (w : World) (k : Nat) (hk : k ≤ 5) (hk1 : 1 ≤ k) (x0 x1 x2 x3 x4 : Int) :
    Sem.run Tryd.prog (convert 66 9 (.slice (some ⟨w.heap.size, 0, none⟩) k 5)) (w.alloc (.cells #[.int .u8 x0, .int .u8 x1, .int .u8 x2, .int .u8 x3, .int .u8 x4] 72)) =
      .ok (.string (strOfNums ([x0, x1, x2, x3, x4].take k))) (w.alloc (.cells #[.int .u8 x0, .int .u8 x1, .int .u8 x2, .int .u8 x3, .int .u8 x4] 72)) := by
  refine run_convert_bytes_arg _ 66 5 Tryd.underlying66 Tryd.underlying5 w.heap.size 0 k 5 _ (by simp; omega) ?_ 9 Tryd.underlying9
  intro i hi
  rw [World.cell?_alloc_at _ _ _ _ rfl]
  have h5 : i < 5 := by omega
  rw [List.getD_eq_getElem?_getD, List.getElem?_take_of_lt (by omega)]
  match i, h5 with
  | 0, _ => rfl
  | 1, _ => rfl
  | 2, _ => rfl
  | 3, _ => rfl
  | 4, _ => rfl
theorem istr_0 (n : Int) (h : -128 ≤ n ∧ n < 128) : strOfNums [192, n % 256] = intB n := by
  rw [intB_0 h, leZ_one]
  unfold strOfNums
  simp only [List.map]
  rw [byteZ_num (x := n) (y := n % 256) (i := 0) (by omega)]
  rfl
theorem istr_1 (n : Int) (h0 : ¬ (-128 ≤ n ∧ n < 128)) (h : -32768 ≤ n ∧ n < 32768) : strOfNums [193, n % 256, n / 256 % 256] = intB n := by
  rw [intB_1 h0 h, leZ_two]
  unfold strOfNums
  simp only [List.map]
  rw [byteZ_num (x := n) (y := n % 256) (i := 0) (by omega), byteZ_num (x := n) (y := n / 256 % 256) (i := 1) (by omega)]
  rfl
theorem istr_2 (n : Int) (h0 : ¬ (-32768 ≤ n ∧ n < 32768)) : strOfNums [194, n % 256, n / 256 % 256, n / 65536 % 256, n / 16777216 % 256] = intB n := by
  rw [intB_2 h0, leZ_four]
  unfold strOfNums
  simp only [List.map]
  rw [byteZ_num (x := n) (y := n % 256) (i := 0) (by omega), byteZ_num (x := n) (y := n / 256 % 256) (i := 1) (by omega), byteZ_num (x := n) (y := n / 65536 % 256) (i := 2) (by omega), byteZ_num (x := n) (y := n / 16777216 % 256) (i := 3) (by omega)]
  rfl
set_option maxHeartbeats 1000000 in
theorem putInt_0 (n : Int) (h0 : -128 ≤ n) (h1 : n < 128) (w : World) :
    Calls Tryd.prog 11 #[.int .i64 n] w fun e w' => e = .returned (.tuple #[.string (intB n), .bool true]) ∧ Below w.heap.size w w' := by
  have HB : Hid _ := istr_0 n ⟨h0, h1⟩
  have HW : Hid _ := leastForm_0 n h0 h1
  have hcv := conv5 w 2 (by omega) (by omega)
  have g0 : -2147483648 ≤ n := by omega
  have g1 : n < 2147483648 := by omega

  go_enter Tryd.func11, Tryd.ntmps11
  go_wp2_with fail
  refine (HW.out _).mono ?_
  rintro e w1 ⟨rfl, rfl⟩
  go_wp2
  go_rounds 10
  go_ret2
  exact ⟨by rw [← HB.out]; rfl, (Below.refl _ _).alloc (Nat.le_refl _) _⟩
set_option maxHeartbeats 1000000 in
theorem putInt_1 (n : Int) (h0 : ¬ (-128 ≤ n ∧ n < 128)) (h1 : -32768 ≤ n) (h2 : n < 32768) (w : World) :
    Calls Tryd.prog 11 #[.int .i64 n] w fun e w' => e = .returned (.tuple #[.string (intB n), .bool true]) ∧ Below w.heap.size w w' := by
  have HB : Hid _ := istr_1 n h0 ⟨h1, h2⟩
  have HW : Hid _ := leastForm_1 n h0 h1 h2
  have hcv := conv5 w 3 (by omega) (by omega)
  have g0 : -2147483648 ≤ n := by omega
  have g1 : n < 2147483648 := by omega
  clear h0
  go_enter Tryd.func11, Tryd.ntmps11
  go_wp2_with fail
  refine (HW.out _).mono ?_
  rintro e w1 ⟨rfl, rfl⟩
  go_wp2
  go_rounds 10
  go_ret2
  exact ⟨by rw [← HB.out]; rfl, (Below.refl _ _).alloc (Nat.le_refl _) _⟩
set_option maxHeartbeats 1000000 in
theorem putInt_2 (n : Int) (h0 : ¬ (-32768 ≤ n ∧ n < 32768)) (h1 : -2147483648 ≤ n) (h2 : n < 2147483648) (w : World) :
    Calls Tryd.prog 11 #[.int .i64 n] w fun e w' => e = .returned (.tuple #[.string (intB n), .bool true]) ∧ Below w.heap.size w w' := by
  have HB : Hid _ := istr_2 n h0
  have HW : Hid _ := leastForm_2 n h0 h1 h2
  have hcv := conv5 w 5 (by omega) (by omega)
  have g0 : -2147483648 ≤ n := by omega
  have g1 : n < 2147483648 := by omega
  clear h0
  go_enter Tryd.func11, Tryd.ntmps11
  go_wp2_with fail
  refine (HW.out _).mono ?_
  rintro e w1 ⟨rfl, rfl⟩
  go_wp2
  go_rounds 10
  go_ret2
  exact ⟨by rw [← HB.out]; rfl, (Below.refl _ _).alloc (Nat.le_refl _) _⟩
theorem putInt_ok (n : Int) (h0 : -2147483648 ≤ n) (h1 : n < 2147483648) (w : World) :
    Calls Tryd.prog 11 #[.int .i64 n] w fun e w' => e = .returned (.tuple #[.string (intB n), .bool true]) ∧ Below w.heap.size w w' := by
  by_cases c1 : -128 ≤ n ∧ n < 128
  · exact putInt_0 n c1.1 c1.2 w
  · by_cases c2 : -32768 ≤ n ∧ n < 32768
    · exact putInt_1 n c1 c2.1 c2.2 w
    · exact putInt_2 n c2 h0 h1 w
end Go.Proofs.YtcnicdcjdieodaaDoor
