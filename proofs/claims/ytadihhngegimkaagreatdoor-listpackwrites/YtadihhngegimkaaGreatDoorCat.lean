import Derived.Test.YtadihhngegimkaaGreatDoorFwd
import Derived.Test.YtadihhngegimkaaGreatDoorOne3
import Derived.RecoverIn
namespace Go.Proofs.YtadihhngegimkaaGreatDoor
open Go.RowKit
set_option linter.unusedVariables false
attribute [local go_sem] Oper.semAt_some
theorem row1 {w : World} {g T : Nat} {v0 : Value} (h : w.heap[g]? = some (.cells #[v0] T)) : w.cell? ⟨g, 0, none⟩ = some v0 ∧ ∀ j, w.frozen? ⟨g, j, none⟩ = false := by
  refine ⟨?_, fun j => frozen_of_row _ _ _ _ _ h⟩ <;> rw [cell_of_row _ _ _ _ _ _ h] <;> rfl
def spoilt (W : World) (L E : Nat) : World := ((W.setCell ⟨L, 0, none⟩ (.string ⟨#[]⟩)).setCell ⟨L, 1, none⟩ (.int .i64 0)).setCell ⟨E, 0, none⟩ (.int .i64 60)
theorem catch_p (n L E : Nat) (b : ByteArray) (c x : Int) (w : World) (hL : w.heap[L]? = some (.cells #[.string b, .int .i64 c] 54)) (hE : w.heap[E]? = some (.cells #[.int .i64 x] 24)) :
    CallsDIn Fence.wide n Tryz.prog 36 #[.pointer (some ⟨L, 0, none⟩), .pointer (some ⟨E, 0, none⟩)] (.panicking pch) w fun e u' w' =>
      e = .returned (.tuple #[]) ∧ settle u' = .returning ∧ w' = spoilt w L E := by
  obtain ⟨l0, l1, lf⟩ := prow2 hL
  obtain ⟨e0, ef⟩ := row1 hE
  have hne : L ≠ E := by rintro rfl; rw [hL] at hE; cases hE
  refine callsDIn_of_wpSIn Tryz.func36 rfl trivial fun c₀ cs hu => ?_
  apply wpSIn_seq
  apply wpSIn_region
  simp [wpOpsSIn, go_sem, recoverD, hu, Tryz.ntmps36, Exit.thenS, pch]
  refine wpSIn_cond (t := true) (by simp [Act.eval, Array.replicate]) ?_
  simp only [if_true]
  refine wpSIn_of_wpIn rfl ?_
  have hst : (#[Value.pointer (some ⟨L, 0, none⟩), Value.pointer (some ⟨E, 0, none⟩)] ++ ((Array.replicate 3 undef).setIfInBounds 0 (Value.iface 24 (Value.int IntKind.i64 60))).setIfInBounds 1 (Value.bool true)) = #[Value.pointer (some ⟨L, 0, none⟩), Value.pointer (some ⟨E, 0, none⟩), Value.iface 24 (Value.int IntKind.i64 60), Value.bool true, undef] := by rfl
  rw [hst]
  clear hst
  gi_wp2
  refine ⟨rfl, _, rfl, .tuple #[], ?_, rfl, rfl, rfl⟩
  exact results_none rfl _ _ _
theorem catch_i (n L E : Nat) (w : World) :
    CallsDIn Fence.wide n Tryz.prog 36 #[.pointer (some ⟨L, 0, none⟩), .pointer (some ⟨E, 0, none⟩)] .returning w fun e u' w' =>
      e = .returned (.tuple #[]) ∧ u' = .returning ∧ w' = w := by
  refine callsDIn_of_wpSIn Tryz.func36 rfl trivial fun c₀ cs hu => ?_
  apply wpSIn_seq
  apply wpSIn_region
  simp [wpOpsSIn, go_sem, recoverD, hu, Tryz.ntmps36, Exit.thenS]
  refine wpSIn_cond (t := false) (by simp [Act.eval, Array.replicate]) ?_
  simp only [Bool.false_eq_true, if_false]
  refine wpSIn_of_wpIn rfl (wpIn_skip ?_)
  cases c₀
  simp_all [bodyPostS, results, Tryz.results36]
end Go.Proofs.YtadihhngegimkaaGreatDoor
