import Derived.Test.YtcnicdcjdieodaaDoorLawT
import Derived.SliceStrings
namespace Go.Proofs.YtcnicdcjdieodaaDoor
open Go.ChangeShapes
set_option linter.unusedVariables false

theorem bulk_snoc {H : Type} (l : List (DataW H)) (d : DataW H) : Rows.uptoBulkAll (l ++ [d]) = Rows.uptoBulkAll l + Rows.uptoBulk d := by
  induction l with
  | nil => simp [Rows.uptoBulkAll]
  | cons x l ih => simp only [List.cons_append, Rows.uptoBulkAll, ih]; omega
theorem bulk_str {H : Type} (s : ByteArray) : Rows.uptoBulk (DataW.lit (H := H) (.string s.data.toList)) = s.size + 1 := by
  simp only [Rows.uptoBulk]; rw [list_len]
theorem bulk_small {H : Type} {l : List (DataW H)} (hk : Rows.uptoSmall H l = true) : Rows.uptoBulkAll l ≤ 1048576 := of_decide_eq_true hk
theorem bulk_sum {H : Type} (ss : List ByteArray) (k : Nat) (hk : k ≤ ss.length) : sumL (fun i => ss.getD i ByteArray.empty) k ≤ 9 * Rows.uptoBulkAll (strs (H := H) (ss.take k)) ∧ k ≤ Rows.uptoBulkAll (strs (H := H) (ss.take k)) := by
  induction k with
  | zero => exact ⟨Nat.zero_le _, Nat.zero_le _⟩
  | succ k ih =>
    obtain ⟨h1, h2⟩ := ih (by omega)
    have e : ss.take (k + 1) = ss.take k ++ [ss.getD k ByteArray.empty] := by
      rw [List.take_add_one, List.getElem?_eq_getElem (by omega), List.getD_eq_getElem?_getD, List.getElem?_eq_getElem (by omega)]; rfl
    have e2 : strs (H := H) (ss.take (k + 1)) = strs (ss.take k) ++ [.lit (.string (ss.getD k ByteArray.empty).data.toList)] := by
      rw [e]; unfold strs; rw [List.map_append]; rfl
    rw [e2, bulk_snoc, bulk_str, sumL_succ]
    omega
end Go.Proofs.YtcnicdcjdieodaaDoor
