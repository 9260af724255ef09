import Derived.Test.YtcnicdcjdieodaaDoorWorks
import Derived.Test.YtcnicdcjdieodaaDoorPutI
import Derived.Test.YtcnicdcjdieodaaDoorRDig
import Derived.ProofKit
import Derived.OpenShut
import Derived.ShutString
import Derived.SizedLaws
namespace Go.Proofs.YtcnicdcjdieodaaDoor
open Go.RowKit Vi
set_option linter.unusedVariables false

/-- what PutInt answers. -/
def putI (n : Int) : ByteArray := if -2147483648 ≤ n ∧ n < 2147483648 then intB n else ⟨#[]⟩
def hasI (n : Int) : Bool := decide (-2147483648 ≤ n ∧ n < 2147483648)
theorem putI_ok {n : Int} (h : -2147483648 ≤ n ∧ n < 2147483648) : putI n = intB n ∧ hasI n = true := by unfold putI hasI; rw [if_pos h]; exact ⟨rfl, by simpa using h⟩
theorem putI_no {n : Int} (h : ¬ (-2147483648 ≤ n ∧ n < 2147483648)) : putI n = ⟨#[]⟩ ∧ hasI n = false := by unfold putI hasI; rw [if_neg h]; exact ⟨rfl, by simpa using h⟩
theorem putInt_any (n : Int) (w : World) :
    Calls Tryd.prog 11 #[.int .i64 n] w fun e w' => e = .returned (.tuple #[.string (putI n), .bool (hasI n)]) ∧ Below w.heap.size w w' := by
  by_cases h : -2147483648 ≤ n ∧ n < 2147483648
  · rw [(putI_ok h).1, (putI_ok h).2]; exact putInt_ok n h.1 h.2 w
  · rw [(putI_no h).1, (putI_no h).2]
    refine (putInt_none n h w).mono ?_
    rintro e w' ⟨rfl, rfl⟩
    exact ⟨rfl, Below.refl _ _⟩
theorem refPutInt_any (n : Int) (w : World) :
    Calls Tryd.prog 17 #[.int .i64 n] w fun e w' => e = .returned (.tuple #[.string (putI n), .bool (hasI n)]) ∧ Below w.heap.size w w' := by
  by_cases h : -2147483648 ≤ n ∧ n < 2147483648
  · rw [(putI_ok h).1, (putI_ok h).2]; exact refPutInt_ok n h.1 h.2 w
  · rw [(putI_no h).1, (putI_no h).2]
    refine (refPutInt_none n h w).mono ?_
    rintro e w' ⟨rfl, rfl⟩
    exact ⟨rfl, Below.refl _ _⟩
set_option maxHeartbeats 400000 in
set_option maxRecDepth 20000 in
theorem VarintWrites_walk0 (n : Int) (h0 : -9223372036854775808 ≤ n) (h1 : n ≤ 9223372036854775807) (w : World) (hL : Laid w) :
    Calls Tryd.prog 5 #[.int .i64 n] w fun e w' => e = .returned (.bool true) ∧ Below w.heap.size w w' := by
  have HL : Hid (Laid w) := hL
  clear hL
  go_enter Tryd.func5, Tryd.ntmps5
  go_wp2_with fail
  refine (putLen_any n _).mono ?_
  rintro e w1 ⟨rfl, hb1⟩
  go_wp2_with fail
  refine (refPutLen_any n _).mono ?_
  rintro e w2 ⟨rfl, hb2⟩
  replace hb2 := hb1.trans (hb2.mono hb1.size)
  go_wp2_with fail
  refine (putInt_any n _).mono ?_
  rintro e w3 ⟨rfl, hb3⟩
  replace hb3 := hb2.trans (hb3.mono hb2.size)
  go_wp2_with fail
  refine (refPutInt_any n _).mono ?_
  rintro e w4 ⟨rfl, hb4⟩
  replace hb4 := hb3.trans (hb4.mono hb3.size)
  go_wp2_with fail
  refine (works_any _ (HL.out.on hb4)).mono ?_
  rintro e w5 ⟨rfl, hb5⟩
  replace hb5 := hb4.trans (hb5.mono hb4.size)
  go_wp2_with fail
  refine (digits_any n h0 h1 _ (HL.out.on hb5)).mono ?_
  rintro e w6 ⟨rfl, hb6⟩
  replace hb6 := hb5.trans (hb6.mono hb5.size)
  go_wp2_with fail
  refine (refDigits_any n h0 h1 _).mono ?_
  rintro e w7 ⟨rfl, hb7⟩
  replace hb7 := hb6.trans (hb7.mono hb6.size)
  go_wp2
  go_ret
  exact ⟨rfl, hb7⟩
end Go.Proofs.YtcnicdcjdieodaaDoor
