import Derived.Test.YtdemodhjlbkbeaaSmall
namespace Go.Proofs.Ytdemodhjlbkbeaa
open Go.RowKit
set_option linter.unusedVariables false
/-- the key of works. -/
def kA : ByteArray := ⟨#[97]⟩
theorem nan_no (s : ByteArray) (w : World) : Calls Try.prog 70 #[.string s] w fun e w' => e = .returned (.bool false) ∧ w' = w := by
  have h : (s.toList == s.toList) = true := str_same rfl
  go_enter Try.func70, Try.ntmps70
  go_wp2
  go_returns
  exact ⟨rfl, rfl⟩
theorem cmp_a (w : World) : Calls Try.prog 54 #[.string ⟨#[97]⟩, .string ⟨#[97]⟩] w fun e w' => e = .returned (.int .i64 0) ∧ w' = w := by
  have HN : Hid (∀ w, Calls Try.prog 70 #[.string ⟨#[97]⟩] w fun e w' => e = .returned (.bool false) ∧ w' = w) := nan_no _
  go_enter Try.func54, Try.ntmps54
  go_wp2_with fail
  refine (show Calls _ _ _ _ _ from HN.out _).mono ?_
  rintro e w1 ⟨rfl, rfl⟩
  go_wp2_with fail
  refine (show Calls _ _ _ _ _ from HN.out _).mono ?_
  rintro e w1 ⟨rfl, rfl⟩
  go_wp2
  trace_state
  go_returns
  exact ⟨rfl, rfl⟩
theorem place1_a (v : Int) (w : World) : Calls Try.prog 53 #[.agg #[.string ⟨#[97]⟩, .int .i64 v], .string ⟨#[97]⟩] w fun e w' => e = .returned (.int .i64 0) ∧ Below w.heap.size w w' := by
  have HC : Hid _ := cmp_a
  have hr := one_alloc w (.cells #[.string ⟨#[97]⟩, .int .i64 v] 62)
  go_enter Try.func53, Try.ntmps53
  go_wp2_with fail
  refine (show Calls _ _ _ _ _ from HC.out _).mono ?_
  rintro e w1 ⟨rfl, rfl⟩
  go_wp2
  go_returns
  exact ⟨rfl, (Below.refl _ w).alloc (Nat.le_refl _) _⟩
end Go.Proofs.Ytdemodhjlbkbeaa
