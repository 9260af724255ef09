import Derived.Test.YtcnicdcjdieodaaDoorForth
namespace Go.Proofs.YtcnicdcjdieodaaDoor
open Go.RowKit Vi
set_option linter.unusedVariables false
set_option maxHeartbeats 2000000 in
set_option maxRecDepth 20000 in
theorem forth_b1x (s : ByteArray) (z : s.size ≤ 140737488351232) (n sz sp : Int) (hl : sp ≠ 0) (HC : ∀ w : World, Calls Tryd.prog 10 #[.string s] w fun x w' => x = .returned (.tuple #[.int .i64 n, .int .i64 sz, .int .i64 sp, .int .i64 0]) ∧ w' = w) (m mz e1 : Int) (hi : e1 ≠ 0) (HI : ∀ w : World, Calls Tryd.prog 12 #[.string s] w fun x w' => x = .returned (.tuple #[.int .i64 m, .int .i64 mz, .int .i64 e1]) ∧ w' = w) (hn : numberOf s.data.toList = none)
    (w : World) (hL : Laid w) :
    Calls Tryd.prog 4 #[.string s] w fun e w' => e = .returned (.bool true) ∧ Below w.heap.size w w' := by
  have HL : Hid (Laid w) := hL
  have HC' : Hid _ := HC
  have HI' : Hid _ := HI
  have HZ : Hid (s.size ≤ 140737488351232) := z
  have HN : ∀ w : World, Laid w → Calls Tryd.prog 13 #[.string s] w fun e w' => e = .returned (.tuple #[.int .i64 0, .bool false]) ∧ Below w.heap.size w w' := by
    intro w hL
    have h := number_any s (by omega) w hL
    rw [numT_none hn] at h
    exact h
  have HN' : Hid _ := HN
  clear HC HI HN hL hn z
  have t0 : (sp == 0) = false := by simpa using hl
  clear hl
  have t1 : (e1 == 0) = false := by simpa using hi
  clear hi
  go_enter Tryd.func4, Tryd.ntmps4
  go_wp2_with fail
  refine (HC'.out _).mono ?_
  rintro e w1 ⟨rfl, rfl⟩
  have hb2 := Below.refl w1.heap.size w1
  go_wp2_with fail
  refine (HI'.out _).mono ?_
  rintro e w4 ⟨rfl, rfl⟩
  have hb5 := hb2
  go_wp2_with fail
  refine (HN'.out _ (HL.out.on hb5)).mono ?_
  rintro e w6 ⟨rfl, hb6⟩
  replace hb6 := hb5.trans (hb6.mono hb5.size)
  go_wp2_with fail
  refine (works_any _ (HL.out.on hb6)).mono ?_
  rintro e w7 ⟨rfl, hb7⟩
  replace hb7 := hb6.trans (hb7.mono hb6.size)
  have hb8 := hb7
  go_wp2
  go_ret
  exact ⟨rfl, hb8⟩
set_option maxHeartbeats 2000000 in
set_option maxRecDepth 20000 in
theorem forth_b1y (s : ByteArray) (z : s.size ≤ 140737488351232) (n sz sp : Int) (hl : sp ≠ 0) (HC : ∀ w : World, Calls Tryd.prog 10 #[.string s] w fun x w' => x = .returned (.tuple #[.int .i64 n, .int .i64 sz, .int .i64 sp, .int .i64 0]) ∧ w' = w) (m mz e1 : Int) (hi : e1 ≠ 0) (HI : ∀ w : World, Calls Tryd.prog 12 #[.string s] w fun x w' => x = .returned (.tuple #[.int .i64 m, .int .i64 mz, .int .i64 e1]) ∧ w' = w) (v : Int) (hn : numberOf s.data.toList = some v)
    (w : World) (hL : Laid w) :
    Calls Tryd.prog 4 #[.string s] w fun e w' => e = .returned (.bool true) ∧ Below w.heap.size w w' := by
  have HL : Hid (Laid w) := hL
  have HC' : Hid _ := HC
  have HI' : Hid _ := HI
  have HZ : Hid (s.size ≤ 140737488351232) := z
  obtain ⟨hv, v0, v1, _⟩ := numberOf_some hn
  have hv2 : ((itoaB v).toList == s.toList) = true := str_same (by rw [itoaB_list2]; exact hv)
  have HN : ∀ w : World, Laid w → Calls Tryd.prog 13 #[.string s] w fun e w' => e = .returned (.tuple #[.int .i64 v, .bool true]) ∧ Below w.heap.size w w' := by
    intro w hL
    have h := number_any s (by omega) w hL
    rw [numT_some hn] at h
    exact h
  clear hv
  have HN' : Hid _ := HN
  clear HC HI HN hL hn z
  have t0 : (sp == 0) = false := by simpa using hl
  clear hl
  have t1 : (e1 == 0) = false := by simpa using hi
  clear hi
  go_enter Tryd.func4, Tryd.ntmps4
  go_wp2_with fail
  refine (HC'.out _).mono ?_
  rintro e w1 ⟨rfl, rfl⟩
  have hb2 := Below.refl w1.heap.size w1
  go_wp2_with fail
  refine (HI'.out _).mono ?_
  rintro e w4 ⟨rfl, rfl⟩
  have hb5 := hb2
  go_wp2_with fail
  refine (HN'.out _ (HL.out.on hb5)).mono ?_
  rintro e w6 ⟨rfl, hb6⟩
  replace hb6 := hb5.trans (hb6.mono hb5.size)
  go_wp2_with fail
  refine (works_any _ (HL.out.on hb6)).mono ?_
  rintro e w7 ⟨rfl, hb7⟩
  replace hb7 := hb6.trans (hb7.mono hb6.size)
  go_wp2_with fail
  refine (digits_any v v0 v1 _ (HL.out.on hb7)).mono ?_
  rintro e w8 ⟨rfl, hb8⟩
  replace hb8 := hb7.trans (hb8.mono hb7.size)
  go_wp2
  go_ret
  exact ⟨rfl, hb8⟩
set_option maxHeartbeats 2000000 in
set_option maxRecDepth 20000 in
theorem forth_b2x (s : ByteArray) (z : s.size ≤ 140737488351232) (n sz sp : Int) (hl : sp ≠ 0) (HC : ∀ w : World, Calls Tryd.prog 10 #[.string s] w fun x w' => x = .returned (.tuple #[.int .i64 n, .int .i64 sz, .int .i64 sp, .int .i64 0]) ∧ w' = w) (m : Int) (j : Nat) (m0 : -2147483648 ≤ m) (m1 : m < 2147483648) (j1 : 1 ≤ j) (j9 : j ≤ 5) (js : j ≤ s.size) (hi : intL m = s.data.toList.take j) (HI : ∀ w : World, Calls Tryd.prog 12 #[.string s] w fun x w' => x = .returned (.tuple #[.int .i64 m, .int .i64 (j : Int), .int .i64 0]) ∧ w' = w) (hn : numberOf s.data.toList = none)
    (w : World) (hL : Laid w) :
    Calls Tryd.prog 4 #[.string s] w fun e w' => e = .returned (.bool true) ∧ Below w.heap.size w w' := by
  have HL : Hid (Laid w) := hL
  have HC' : Hid _ := HC
  have HI' : Hid _ := HI
  have HZ : Hid (s.size ≤ 140737488351232) := z
  have HN : ∀ w : World, Laid w → Calls Tryd.prog 13 #[.string s] w fun e w' => e = .returned (.tuple #[.int .i64 0, .bool false]) ∧ Below w.heap.size w w' := by
    intro w hL
    have h := number_any s (by omega) w hL
    rw [numT_none hn] at h
    exact h
  have HN' : Hid _ := HN
  clear HC HI HN hL hn z
  have t0 : (sp == 0) = false := by simpa using hl
  clear hl
  have hq1 : ((intB m).toList == (s.extract 0 j).toList) = true := cut_same (by rw [intB_list]; exact hi)
  clear hi
  go_enter Tryd.func4, Tryd.ntmps4
  go_wp2_with fail
  refine (HC'.out _).mono ?_
  rintro e w1 ⟨rfl, rfl⟩
  have hb2 := Below.refl w1.heap.size w1
  go_wp2_with fail
  refine (HI'.out _).mono ?_
  rintro e w4 ⟨rfl, rfl⟩
  go_wp2_with fail
  refine (putInt_ok m m0 m1 _).mono ?_
  rintro e w5 ⟨rfl, hb5⟩
  replace hb5 := hb2.trans (hb5.mono hb2.size)
  go_wp2_with fail
  refine (HN'.out _ (HL.out.on hb5)).mono ?_
  rintro e w6 ⟨rfl, hb6⟩
  replace hb6 := hb5.trans (hb6.mono hb5.size)
  go_wp2_with fail
  refine (works_any _ (HL.out.on hb6)).mono ?_
  rintro e w7 ⟨rfl, hb7⟩
  replace hb7 := hb6.trans (hb7.mono hb6.size)
  have hb8 := hb7
  go_wp2
  go_ret
  exact ⟨rfl, hb8⟩
set_option maxHeartbeats 2000000 in
set_option maxRecDepth 20000 in
theorem forth_b2y (s : ByteArray) (z : s.size ≤ 140737488351232) (n sz sp : Int) (hl : sp ≠ 0) (HC : ∀ w : World, Calls Tryd.prog 10 #[.string s] w fun x w' => x = .returned (.tuple #[.int .i64 n, .int .i64 sz, .int .i64 sp, .int .i64 0]) ∧ w' = w) (m : Int) (j : Nat) (m0 : -2147483648 ≤ m) (m1 : m < 2147483648) (j1 : 1 ≤ j) (j9 : j ≤ 5) (js : j ≤ s.size) (hi : intL m = s.data.toList.take j) (HI : ∀ w : World, Calls Tryd.prog 12 #[.string s] w fun x w' => x = .returned (.tuple #[.int .i64 m, .int .i64 (j : Int), .int .i64 0]) ∧ w' = w) (v : Int) (hn : numberOf s.data.toList = some v)
    (w : World) (hL : Laid w) :
    Calls Tryd.prog 4 #[.string s] w fun e w' => e = .returned (.bool true) ∧ Below w.heap.size w w' := by
  have HL : Hid (Laid w) := hL
  have HC' : Hid _ := HC
  have HI' : Hid _ := HI
  have HZ : Hid (s.size ≤ 140737488351232) := z
  obtain ⟨hv, v0, v1, _⟩ := numberOf_some hn
  have hv2 : ((itoaB v).toList == s.toList) = true := str_same (by rw [itoaB_list2]; exact hv)
  have HN : ∀ w : World, Laid w → Calls Tryd.prog 13 #[.string s] w fun e w' => e = .returned (.tuple #[.int .i64 v, .bool true]) ∧ Below w.heap.size w w' := by
    intro w hL
    have h := number_any s (by omega) w hL
    rw [numT_some hn] at h
    exact h
  clear hv
  have HN' : Hid _ := HN
  clear HC HI HN hL hn z
  have t0 : (sp == 0) = false := by simpa using hl
  clear hl
  have hq1 : ((intB m).toList == (s.extract 0 j).toList) = true := cut_same (by rw [intB_list]; exact hi)
  clear hi
  go_enter Tryd.func4, Tryd.ntmps4
  go_wp2_with fail
  refine (HC'.out _).mono ?_
  rintro e w1 ⟨rfl, rfl⟩
  have hb2 := Below.refl w1.heap.size w1
  go_wp2_with fail
  refine (HI'.out _).mono ?_
  rintro e w4 ⟨rfl, rfl⟩
  go_wp2_with fail
  refine (putInt_ok m m0 m1 _).mono ?_
  rintro e w5 ⟨rfl, hb5⟩
  replace hb5 := hb2.trans (hb5.mono hb2.size)
  go_wp2_with fail
  refine (HN'.out _ (HL.out.on hb5)).mono ?_
  rintro e w6 ⟨rfl, hb6⟩
  replace hb6 := hb5.trans (hb6.mono hb5.size)
  go_wp2_with fail
  refine (works_any _ (HL.out.on hb6)).mono ?_
  rintro e w7 ⟨rfl, hb7⟩
  replace hb7 := hb6.trans (hb7.mono hb6.size)
  go_wp2_with fail
  refine (digits_any v v0 v1 _ (HL.out.on hb7)).mono ?_
  rintro e w8 ⟨rfl, hb8⟩
  replace hb8 := hb7.trans (hb8.mono hb7.size)
  go_wp2
  go_ret
  exact ⟨rfl, hb8⟩
end Go.Proofs.YtcnicdcjdieodaaDoor
