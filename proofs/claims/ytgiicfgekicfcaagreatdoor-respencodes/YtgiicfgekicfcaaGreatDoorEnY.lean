import Derived.Test.YtgiicfgekicfcaaGreatDoorEnX
import Derived.Test.YtgiicfgekicfcaaGreatDoorEnC
namespace Go.Proofs.YtgiicfgekicfcaaGreatDoor
open Go.RowKit Vi
set_option linter.unusedVariables false
/-- what the encoder answers: the bytes behind those that it held, or that it can't be written. -/
def EnO (B b : Nat) (p : Int) (l : By) (o : Option By) (w w' : World) (e : Ending) : Prop := match o with
  | some a => e = .returned (.bool true) ∧ EnAt B b p (l ++ a) w' ∧ BK B b w w'
  | none => e = .returned (.bool false) ∧ BK B b w w'
def behind (h : By) : Option By → Option By
  | some a => some (h ++ a)
  | none => none
theorem eno_none {B b : Nat} {p : Int} {l h : By} {o : Option By} {w w' : World} (ho : o = none) (hb : BK B b w w') : EnO B b p l (behind h o) w w' (.returned (.bool false)) := by subst ho; exact ⟨rfl, hb⟩
theorem eno_some {B b : Nat} {p : Int} {l h a : By} {o : Option By} {w w' : World} (ho : o = some a) (he : EnAt B b p (l ++ (h ++ a)) w') (hb : BK B b w w') : EnO B b p l (behind h o) w w' (.returned (.bool true)) := by subst ho; exact ⟨rfl, he, hb⟩
end Go.Proofs.YtgiicfgekicfcaaGreatDoor
