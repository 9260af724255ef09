import Derived.Test.YtcnicdcjdieodabDoorNum
namespace Go.Proofs.YtcnicdcjdieodabDoor
open Go.RowKit Vi
set_option linter.unusedVariables false

/-- what PutLen answers. -/
def putB (n : Int) : ByteArray := if 0 ≤ n ∧ n ≤ 4611686018427387904 then lenB n else ⟨#[]⟩
def putE (n : Int) : Int := if 0 ≤ n ∧ n ≤ 4611686018427387904 then 0 else 1
theorem putB_ok {n : Int} (h : 0 ≤ n ∧ n ≤ 4611686018427387904) : putB n = lenB n ∧ putE n = 0 := by unfold putB putE; rw [if_pos h, if_pos h]; exact ⟨rfl, rfl⟩
theorem putB_bad {n : Int} (h : ¬ (0 ≤ n ∧ n ≤ 4611686018427387904)) : putB n = ⟨#[]⟩ ∧ putE n = 1 := by unfold putB putE; rw [if_neg h, if_neg h]; exact ⟨rfl, rfl⟩
theorem putLen_any (n : Int) (w : World) :
    Calls Tryd.prog 16 #[.int .i64 n] w fun e w' => e = .returned (.tuple #[.string (putB n), .int .i64 (putE n)]) ∧ Below w.heap.size w w' := by
  by_cases h : 0 ≤ n ∧ n ≤ 4611686018427387904
  · rw [(putB_ok h).1, (putB_ok h).2]; exact putLen_ok n h.1 h.2 w
  · rw [(putB_bad h).1, (putB_bad h).2]
    refine (putLen_bad n (by omega) w).mono ?_
    rintro e w' ⟨rfl, rfl⟩
    exact ⟨rfl, Below.refl _ _⟩
theorem refPutLen_any (n : Int) (w : World) :
    Calls Tryd.prog 32 #[.int .i64 n] w fun e w' => e = .returned (.tuple #[.string (putB n), .int .i64 (putE n)]) ∧ Below w.heap.size w w' := by
  by_cases h : 0 ≤ n ∧ n ≤ 4611686018427387904
  · rw [(putB_ok h).1, (putB_ok h).2]; exact refPutLen_ok n h.1 h.2 w
  · rw [(putB_bad h).1, (putB_bad h).2]
    refine (refPutLen_bad n (by omega) w).mono ?_
    rintro e w' ⟨rfl, rfl⟩
    exact ⟨rfl, Below.refl _ _⟩

theorem works1 (w : World) : Calls Tryd.prog 16 #[.int .i64 300] w fun e w' => e = .returned (.tuple #[.string ⟨#[65, 44]⟩, .int .i64 0]) ∧ Below w.heap.size w w' := by
  have h := putLen_ok 300 (by omega) (by omega) w
  rw [show lenB 300 = ⟨#[65, 44]⟩ by decide +kernel] at h
  exact h
theorem works2 (w : World) : Calls Tryd.prog 17 #[.string ⟨#[65, 44, 120]⟩] w fun e w' => e = .returned (.tuple #[.int .i64 300, .int .i64 2, .int .i64 0, .int .i64 0]) ∧ w' = w := by
  have h := len_any ⟨#[65, 44, 120]⟩ w
  rw [lenT_eq (r := ⟨300, 2, 0, 0⟩) (by kernel_rfl)] at h
  exact h
theorem works3 (w : World) (hL : Laid w) : Calls Tryd.prog 18 #[.string ⟨#[45, 49, 55]⟩] w fun e w' => e = .returned (.tuple #[.int .i64 (-17), .bool true]) ∧ Below w.heap.size w w' := by
  have h := number_any ⟨#[45, 49, 55]⟩ (by decide) w hL
  rw [numT_some (v := -17) (by decide +kernel)] at h
  exact h
theorem works4 (w : World) (hL : Laid w) : Calls Tryd.prog 19 #[.int .i64 40] w fun e w' => e = .returned (.string ⟨#[52, 48]⟩) ∧ Below w.heap.size w w' := by
  have h := digits_any 40 (by omega) (by omega) w hL
  rw [show itoaB 40 = ⟨#[52, 48]⟩ by decide +kernel] at h
  exact h
set_option maxHeartbeats 400000 in
set_option maxRecDepth 20000 in
theorem works_any (w : World) (hL : Laid w) : Calls Tryd.prog 5 #[] w fun e w' => e = .returned (.bool true) ∧ Below w.heap.size w w' := by
  have HL : Hid (Laid w) := hL
  clear hL
  go_enter Tryd.func5, Tryd.ntmps5
  go_wp2_with fail
  refine (works1 _).mono ?_
  rintro e w1 ⟨rfl, hb1⟩
  go_wp2_with fail
  refine (works2 _).mono ?_
  rintro e w2 ⟨rfl, rfl⟩
  go_wp2_with fail
  refine (works3 _ (HL.out.on hb1)).mono ?_
  rintro e w3 ⟨rfl, hb3⟩
  have hb13 := hb1.trans (hb3.mono hb1.size)
  go_wp2_with fail
  refine (works4 _ (HL.out.on hb13)).mono ?_
  rintro e w4 ⟨rfl, hb4⟩
  go_wp2
  go_ret
  exact ⟨rfl, hb13.trans (hb4.mono hb13.size)⟩
end Go.Proofs.YtcnicdcjdieodabDoor
