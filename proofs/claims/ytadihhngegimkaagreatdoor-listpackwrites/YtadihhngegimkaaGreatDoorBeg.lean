import Derived.Test.YtadihhngegimkaaGreatDoorRd2
namespace Go.Proofs.YtadihhngegimkaaGreatDoor
open Go.RowKit
set_option linter.unusedVariables false
attribute [local go_sem] Oper.semAt_some
theorem ents_pre {pre L : List LM.Ent} {x : LM.Ent} (h : pre ++ [x] <+: L) : L[pre.length]? = some x := by
  obtain ⟨t, rfl⟩ := h
  simp
/-- where each entry of a pack begins. -/
def BegC (l : List LM.Item) : Prop := ∀ (k : Nat), k ≤ l.length → ∀ W, Lay W → Calls Tryz.prog 56 #[.agg #[.string (strB (LM.bodyOf l)), .int .i64 (l.length : Int)], .int .i64 (k : Int)] W fun e w' => e = .returned (.int .i64 (LM.bsum (l.take k) : Nat)) ∧ Below W.heap.size W w'
set_option maxHeartbeats 1000000 in
theorem begin_end (B : ByteArray) (k : Nat) (w : World) : Calls Tryz.prog 56 #[.agg #[.string B, .int .i64 (k : Int)], .int .i64 (k : Int)] w fun e w' => e = .returned (.int .i64 (B.size : Int)) ∧ Below w.heap.size w w' := by
  go_enter Tryz.func56, Tryz.ntmps56
  go_wp2
  go_ret
  exact ⟨rfl, ((Below.refl _ w).alloc (Nat.le_refl _) _).alloc (by simp) _⟩
theorem begC_nil : BegC [] := fun k hk W _ => by
  obtain rfl : k = 0 := by simpa using hk
  have := begin_end (strB (LM.bodyOf [])) 0 W
  rwa [strB_size, LM.bodyOf_len] at this
end Go.Proofs.YtadihhngegimkaaGreatDoor
