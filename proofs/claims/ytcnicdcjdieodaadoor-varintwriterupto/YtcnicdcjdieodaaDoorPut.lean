import Derived.Test.YtcnicdcjdieodaaDoorBytes
namespace Go.Proofs.YtcnicdcjdieodaaDoor
open Go.RowKit Vi
set_option linter.unusedVariables false

def lenB (n : Int) : ByteArray := ⟨(lenL n).toArray⟩
theorem cons_str (b : UInt8) (l : List UInt8) : (⟨#[b]⟩ : ByteArray) ++ ⟨l.toArray⟩ = ⟨(b :: l).toArray⟩ := by
  apply ByteArray.ext
  simp
theorem lenB_1 {n : Int} (h : n < 64) : lenB n = ⟨(beZ n 1).toArray⟩ := by unfold lenB lenL; rw [if_pos h]
theorem lenB_2 {n : Int} (h0 : 64 ≤ n) (h : n < 16384) : lenB n = ⟨(beZ (n + 16384) 2).toArray⟩ := by unfold lenB lenL; rw [if_neg (by omega), if_pos h]
theorem lenB_5 {n : Int} (h0 : 16384 ≤ n) (h : n < 4294967296) : lenB n = ⟨(128 :: beZ n 4).toArray⟩ := by unfold lenB lenL; rw [if_neg (by omega), if_neg (by omega), if_pos h]
theorem lenB_9 {n : Int} (h0 : 4294967296 ≤ n) : lenB n = ⟨(129 :: beZ n 8).toArray⟩ := by unfold lenB lenL; rw [if_neg (by omega), if_neg (by omega), if_neg (by omega)]

set_option maxHeartbeats 400000 in
theorem refPutLen_bad (n : Int) (h : n < 0 ∨ 4611686018427387904 < n) (w : World) :
    Calls Tryd.prog 16 #[.int .i64 n] w fun e w' => e = .returned (.tuple #[.string ⟨#[]⟩, .int .i64 1]) ∧ w' = w := by
  rcases h with h | h
  · go_enter Tryd.func16, Tryd.ntmps16
    go_wp2
    go_ret2
    exact ⟨rfl, rfl⟩
  · have h' : ¬ n < 0 := by omega
    go_enter Tryd.func16, Tryd.ntmps16
    go_wp2
    go_ret2
    exact ⟨rfl, rfl⟩
set_option maxHeartbeats 400000 in
theorem refPutLen_ok (n : Int) (h0 : 0 ≤ n) (h1 : n ≤ 4611686018427387904) (w : World) :
    Calls Tryd.prog 16 #[.int .i64 n] w fun e w' => e = .returned (.tuple #[.string (lenB n), .int .i64 0]) ∧ Below w.heap.size w w' := by
  by_cases c1 : n < 64
  · have HB : Hid _ := lenB_1 c1
    go_enter Tryd.func16, Tryd.ntmps16
    go_wp2_with fail
    refine (big_any n 1 h0 (by omega) (by omega) (by omega) _).mono ?_
    rintro e w1 ⟨rfl, hb1⟩
    go_wp2
    go_ret2
    exact ⟨by rw [HB.out]; rfl, hb1⟩
  · by_cases c2 : n < 16384
    · have HB : Hid _ := lenB_2 (n := n) (by omega) c2
      go_enter Tryd.func16, Tryd.ntmps16
      go_wp2_with fail
      refine (big_any (n + 16384) 2 (by omega) (by omega) (by omega) (by omega) _).mono ?_
      rintro e w1 ⟨rfl, hb1⟩
      go_wp2
      go_ret2
      exact ⟨by rw [HB.out]; rfl, hb1⟩
    · by_cases c3 : n < 4294967296
      · have HB : Hid _ := lenB_5 (n := n) (by omega) c3
        have HC : Hid _ := cons_str 128 (beZ n 4)
        go_enter Tryd.func16, Tryd.ntmps16
        go_wp2_with fail
        refine (big_any n 4 h0 (by omega) (by omega) (by omega) _).mono ?_
        rintro e w1 ⟨rfl, hb1⟩
        go_wp2
        go_ret2
        exact ⟨by rw [HB.out, ← HC.out]; rfl, hb1⟩
      · have HB : Hid _ := lenB_9 (n := n) (by omega)
        have HC : Hid _ := cons_str 129 (beZ n 8)
        go_enter Tryd.func16, Tryd.ntmps16
        go_wp2_with fail
        refine (big_any n 8 h0 (by omega) (by omega) (by omega) _).mono ?_
        rintro e w1 ⟨rfl, hb1⟩
        go_wp2
        go_ret2
        exact ⟨by rw [HB.out, ← HC.out]; rfl, hb1⟩

set_option maxHeartbeats 400000 in
theorem putLen_bad (n : Int) (h : n < 0 ∨ 4611686018427387904 < n) (w : World) :
    Calls Tryd.prog 9 #[.int .i64 n] w fun e w' => e = .returned (.tuple #[.string ⟨#[]⟩, .int .i64 1]) ∧ w' = w := by
  rcases h with h | h
  · go_enter Tryd.func9, Tryd.ntmps9
    go_wp2
    go_ret2
    exact ⟨rfl, rfl⟩
  · have h' : ¬ n < 0 := by omega
    go_enter Tryd.func9, Tryd.ntmps9
    go_wp2
    go_ret2
    exact ⟨rfl, rfl⟩

theorem conv9 (w : World) (k : Nat) (hk : k ≤ 9) (hk1 : 1 ≤ k) (x0 x1 x2 x3 x4 x5 x6 x7 x8 : Int) :
    Sem.run Tryd.prog (convert 66 9 (.slice (some ⟨w.heap.size, 0, none⟩) k 9)) (w.alloc (.cells #[.int .u8 x0, .int .u8 x1, .int .u8 x2, .int .u8 x3, .int .u8 x4, .int .u8 x5, .int .u8 x6, .int .u8 x7, .int .u8 x8] 62)) =
      .ok (.string (strOfNums ([x0, x1, x2, x3, x4, x5, x6, x7, x8].take k))) (w.alloc (.cells #[.int .u8 x0, .int .u8 x1, .int .u8 x2, .int .u8 x3, .int .u8 x4, .int .u8 x5, .int .u8 x6, .int .u8 x7, .int .u8 x8] 62)) := by
  refine run_convert_bytes_arg _ 66 5 Tryd.underlying66 Tryd.underlying5 w.heap.size 0 k 9 _ (by simp; omega) ?_ 9 Tryd.underlying9
  intro i hi
  rw [World.cell?_alloc_at _ _ _ _ rfl]
  have h9 : i < 9 := by omega
  rw [List.getD_eq_getElem?_getD, List.getElem?_take_of_lt (by omega)]
  match i, h9 with
  | 0, _ => rfl
  | 1, _ => rfl
  | 2, _ => rfl
  | 3, _ => rfl
  | 4, _ => rfl
  | 5, _ => rfl
  | 6, _ => rfl
  | 7, _ => rfl
  | 8, _ => rfl

theorem byteZ_num {x y : Int} {i : Nat} (h : y = x / 256 ^ i % 256) : UInt8.ofNat y.toNat = byteZ x i := by rw [h]; rfl
theorem or_64 : ∀ a : Fin 64, (a.val ||| 64) = a.val + 64 := by decide
theorem or_tag2 (x : Int) (h0 : 0 ≤ x) (h1 : x < 64) : bits .or .u8 x 64 = x + 64 := by
  obtain ⟨a, rfl⟩ := Int.eq_ofNat_of_zero_le h0
  have := (bits_nat .u8 8 (by decide) wraps_u8 a 64 (by omega) (by decide)).2
  rw [or_64 ⟨a, by omega⟩] at this
  exact this
theorem or_tag1 (x : Int) (h0 : 0 ≤ x) (h1 : x < 64) : bits .or .u8 x 0 = x := by
  obtain ⟨a, rfl⟩ := Int.eq_ofNat_of_zero_le h0
  have := (bits_nat .u8 8 (by decide) wraps_u8 a 0 (by omega) (by decide)).2
  rw [Nat.or_zero] at this
  exact this
theorem str_1 (n : Int) (h0 : 0 ≤ n) (h1 : n < 64) : strOfNums [bits .or .u8 n 0] = lenB n := by
  rw [lenB_1 h1, or_tag1 n h0 h1, beZ_one]
  unfold strOfNums
  simp only [List.map]
  rw [byteZ_num (x := n) (i := 0) (by omega)]
theorem str_2 (n : Int) (h0 : 64 ≤ n) (h1 : n < 16384) : strOfNums [bits .or .u8 (n / 256) 64, n % 256] = lenB n := by
  rw [lenB_2 h0 h1, or_tag2 (n / 256) (by omega) (by omega), beZ_two]
  unfold strOfNums
  simp only [List.map]
  rw [byteZ_num (x := n + 16384) (i := 1) (by omega), byteZ_num (x := n + 16384) (y := n % 256) (i := 0) (by omega)]
theorem str_5 (n : Int) (h0 : 16384 ≤ n) (h1 : n < 4294967296) : strOfNums [bits .or .u8 (n / 256 / 256 / 256 / 256) 128, n / 256 / 256 / 256, n / 256 / 256 % 256, n / 256 % 256, n % 256] = lenB n := by
  rw [lenB_5 h0 h1, show n / 256 / 256 / 256 / 256 = 0 by omega, show bits .or .u8 0 128 = 128 by decide, beZ_four]
  unfold strOfNums
  simp only [List.map]
  rw [byteZ_num (x := n) (y := n / 256 / 256 / 256) (i := 3) (by omega), byteZ_num (x := n) (y := n / 256 / 256 % 256) (i := 2) (by omega), byteZ_num (x := n) (y := n / 256 % 256) (i := 1) (by omega), byteZ_num (x := n) (y := n % 256) (i := 0) (by omega)]
  rfl
theorem str_9 (n : Int) (h0 : 4294967296 ≤ n) (h1 : n ≤ 4611686018427387904) : strOfNums [bits .or .u8 (n / 256 / 256 / 256 / 256 / 256 / 256 / 256 / 256) 129, n / 256 / 256 / 256 / 256 / 256 / 256 / 256, n / 256 / 256 / 256 / 256 / 256 / 256 % 256, n / 256 / 256 / 256 / 256 / 256 % 256, n / 256 / 256 / 256 / 256 % 256, n / 256 / 256 / 256 % 256, n / 256 / 256 % 256, n / 256 % 256, n % 256] = lenB n := by
  rw [lenB_9 h0, show n / 256 / 256 / 256 / 256 / 256 / 256 / 256 / 256 = 0 by omega, show bits .or .u8 0 129 = 129 by decide, beZ_eight]
  unfold strOfNums
  simp only [List.map]
  rw [byteZ_num (x := n) (y := n / 256 / 256 / 256 / 256 / 256 / 256 / 256) (i := 7) (by omega), byteZ_num (x := n) (y := n / 256 / 256 / 256 / 256 / 256 / 256 % 256) (i := 6) (by omega), byteZ_num (x := n) (y := n / 256 / 256 / 256 / 256 / 256 % 256) (i := 5) (by omega), byteZ_num (x := n) (y := n / 256 / 256 / 256 / 256 % 256) (i := 4) (by omega), byteZ_num (x := n) (y := n / 256 / 256 / 256 % 256) (i := 3) (by omega), byteZ_num (x := n) (y := n / 256 / 256 % 256) (i := 2) (by omega), byteZ_num (x := n) (y := n / 256 % 256) (i := 1) (by omega), byteZ_num (x := n) (y := n % 256) (i := 0) (by omega)]
  rfl
set_option maxHeartbeats 1000000 in
theorem putLen_1 (n : Int) (h0 : 0 ≤ n) (h1 : n < 64) (w : World) :
    Calls Tryd.prog 9 #[.int .i64 n] w fun e w' => e = .returned (.tuple #[.string (lenB n), .int .i64 0]) ∧ Below w.heap.size w w' := by
  have HB : Hid _ := str_1 n h0 h1
  have hcv := conv9 w 1 (by omega) (by omega)
  have HW := wayOf_any n
  rw [(way_1 h1).1, (way_1 h1).2] at HW
  go_enter Tryd.func9, Tryd.ntmps9
  go_wp2_with fail
  refine (HW _).mono ?_
  rintro e w1 ⟨rfl, rfl⟩
  go_wp2
  go_rounds 10
  go_ret2
  exact ⟨by rw [← HB.out]; rfl, (Below.refl _ _).alloc (Nat.le_refl _) _⟩
set_option maxHeartbeats 1000000 in
theorem putLen_2 (n : Int) (h0 : 64 ≤ n) (h1 : n < 16384) (w : World) :
    Calls Tryd.prog 9 #[.int .i64 n] w fun e w' => e = .returned (.tuple #[.string (lenB n), .int .i64 0]) ∧ Below w.heap.size w w' := by
  have HB : Hid _ := str_2 n h0 h1
  have hcv := conv9 w 2 (by omega) (by omega)
  have HW := wayOf_any n
  rw [(way_2 h0 h1).1, (way_2 h0 h1).2] at HW
  go_enter Tryd.func9, Tryd.ntmps9
  go_wp2_with fail
  refine (HW _).mono ?_
  rintro e w1 ⟨rfl, rfl⟩
  go_wp2
  go_rounds 10
  go_ret2
  exact ⟨by rw [← HB.out]; rfl, (Below.refl _ _).alloc (Nat.le_refl _) _⟩
set_option maxHeartbeats 1000000 in
theorem putLen_5 (n : Int) (h0 : 16384 ≤ n) (h1 : n < 4294967296) (w : World) :
    Calls Tryd.prog 9 #[.int .i64 n] w fun e w' => e = .returned (.tuple #[.string (lenB n), .int .i64 0]) ∧ Below w.heap.size w w' := by
  have HB : Hid _ := str_5 n h0 h1
  have hcv := conv9 w 5 (by omega) (by omega)
  have HW := wayOf_any n
  rw [(way_5 h0 h1).1, (way_5 h0 h1).2] at HW
  go_enter Tryd.func9, Tryd.ntmps9
  go_wp2_with fail
  refine (HW _).mono ?_
  rintro e w1 ⟨rfl, rfl⟩
  go_wp2
  go_rounds 10
  go_ret2
  exact ⟨by rw [← HB.out]; rfl, (Below.refl _ _).alloc (Nat.le_refl _) _⟩
set_option maxHeartbeats 1000000 in
theorem putLen_9 (n : Int) (h0 : 4294967296 ≤ n) (h1 : n ≤ 4611686018427387904) (w : World) :
    Calls Tryd.prog 9 #[.int .i64 n] w fun e w' => e = .returned (.tuple #[.string (lenB n), .int .i64 0]) ∧ Below w.heap.size w w' := by
  have HB : Hid _ := str_9 n h0 h1
  have hcv := conv9 w 9 (by omega) (by omega)
  have HW := wayOf_any n
  rw [(way_9 h0).1, (way_9 h0).2] at HW
  go_enter Tryd.func9, Tryd.ntmps9
  go_wp2_with fail
  refine (HW _).mono ?_
  rintro e w1 ⟨rfl, rfl⟩
  go_wp2
  go_rounds 10
  go_ret2
  exact ⟨by rw [← HB.out]; rfl, (Below.refl _ _).alloc (Nat.le_refl _) _⟩
theorem putLen_ok (n : Int) (h0 : 0 ≤ n) (h1 : n ≤ 4611686018427387904) (w : World) :
    Calls Tryd.prog 9 #[.int .i64 n] w fun e w' => e = .returned (.tuple #[.string (lenB n), .int .i64 0]) ∧ Below w.heap.size w w' := by
  by_cases c1 : n < 64
  · exact putLen_1 n h0 c1 w
  · by_cases c2 : n < 16384
    · exact putLen_2 n (by omega) c2 w
    · by_cases c3 : n < 4294967296
      · exact putLen_5 n (by omega) c3 w
      · exact putLen_9 n (by omega) h1 w
end Go.Proofs.YtcnicdcjdieodaaDoor
