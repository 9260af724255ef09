import Derived.Test.YtcnicdcjdieodaaDoorWrt2
import Derived.Deep.RegionHeld3
namespace Go.Proofs.YtcnicdcjdieodaaDoor
open Go.RowKit Vi
set_option linter.unusedVariables false

/-- what is written of k texts: lengths and texts in turn. -/
def enc1 (s : ByteArray) : List UInt8 := lenL (s.size : Int) ++ s.data.toList
def encL (S : Nat → ByteArray) (k : Nat) : List UInt8 := (List.range k).flatMap fun i => enc1 (S i)
theorem encL_succ (S : Nat → ByteArray) (k : Nat) : encL S (k + 1) = encL S k ++ enc1 (S k) := by unfold encL; rw [List.range_succ, List.flatMap_append]; simp
theorem encL_zero (S : Nat → ByteArray) : encL S 0 = [] := rfl
def sumL (S : Nat → ByteArray) (k : Nat) : Nat := ((List.range k).map fun i => (S i).size + 9).sum
theorem sumL_succ (S : Nat → ByteArray) (k : Nat) : sumL S (k + 1) = sumL S k + ((S k).size + 9) := by unfold sumL; rw [List.range_succ, List.map_append, List.sum_append]; simp
theorem sumL_mono (S : Nat → ByteArray) {j k : Nat} (h : j ≤ k) : sumL S j ≤ sumL S k := by
  induction k with
  | zero => have : j = 0 := by omega
            subst this; exact Nat.le_refl _
  | succ k ih =>
    by_cases e : j = k + 1
    · subst e; exact Nat.le_refl _
    · have := ih (by omega)
      rw [sumL_succ]; omega
theorem enc1_len (s : ByteArray) : (enc1 s).length ≤ s.size + 9 := by
  unfold enc1; rw [List.length_append, list_len]; have := lenL_le (s.size : Int); omega
theorem encL_len (S : Nat → ByteArray) (k : Nat) : (encL S k).length ≤ sumL S k := by
  induction k with
  | zero => simp [encL_zero]
  | succ k ih => rw [encL_succ, List.length_append, sumL_succ]; have := enc1_len (S k); omega
theorem encL_pre (S : Nat → ByteArray) {j k : Nat} (h : j ≤ k) : ∃ t, encL S k = encL S j ++ t := by
  induction k with
  | zero => have : j = 0 := by omega
            subst this; exact ⟨[], by simp⟩
  | succ k ih =>
    by_cases e : j = k + 1
    · subst e; exact ⟨[], by simp⟩
    · obtain ⟨t, ht⟩ := ih (by omega)
      exact ⟨t ++ enc1 (S k), by rw [encL_succ, ht]; simp⟩
def encB (S : Nat → ByteArray) (k : Nat) : ByteArray := ⟨(encL S k).toArray⟩
theorem encB_list (S : Nat → ByteArray) (k : Nat) : (encB S k).data.toList = encL S k := by unfold encB; simp
theorem encB_size (S : Nat → ByteArray) (k : Nat) : (encB S k).size = (encL S k).length := by rw [← list_len, encB_list]
/-- behind the k-th text's beginning stand its length and itself. -/
theorem at_text (S : Nat → ByteArray) (n k : Nat) (h : k < n) : ∃ t, (rest (encB S n) (encL S k).length).data.toList = lenL ((S k).size : Int) ++ ((S k).data.toList ++ t) := by
  obtain ⟨t, ht⟩ := encL_pre S (show k + 1 ≤ n by omega)
  refine ⟨t, ?_⟩
  rw [rest_list, encB_list, ht, encL_succ, List.append_assoc, List.drop_left]
  unfold enc1
  simp
theorem read_text (S : Nat → ByteArray) (n k : Nat) (h : k < n) (hs : (S k).size ≤ 65536) : rn (rest (encB S n) (encL S k).length).data.toList = (S k).size ∧ rs (rest (encB S n) (encL S k).length).data.toList = ((lenL ((S k).size : Int)).length : Int) ∧ rp (rest (encB S n) (encL S k).length).data.toList = 0 ∧ re (rest (encB S n) (encL S k).length).data.toList = 0 := by
  obtain ⟨t, ht⟩ := at_text S n k h
  have := readLen_lenL ((S k).size : Int) (by omega) (by omega) ((S k).data.toList ++ t)
  unfold rn rs rp re
  rw [ht, this]
  exact ⟨rfl, rfl, rfl, rfl⟩
theorem cut_text (S : Nat → ByteArray) (n k : Nat) (h : k < n) : (encB S n).extract ((encL S k).length + (lenL ((S k).size : Int)).length) ((encL S k).length + (lenL ((S k).size : Int)).length + (S k).size) = S k := by
  apply WideShapes.bytes_inj
  obtain ⟨t, ht⟩ := encL_pre S (show k + 1 ≤ n by omega)
  rw [ByteArray.data_extract]
  simp only [Array.toList_extract, List.extract_eq_take_drop]
  have e : (encB S n).data.toList = (encL S k ++ lenL ((S k).size : Int)) ++ ((S k).data.toList ++ t) := by
    rw [encB_list, ht, encL_succ]; unfold enc1; simp
  rw [e, ← List.length_append, List.drop_left, show (encL S k ++ lenL ((S k).size : Int)).length + (S k).size - (encL S k ++ lenL ((S k).size : Int)).length = (S k).data.toList.length by rw [list_len]; omega, List.take_left]
theorem was_text (S : Nat → ByteArray) (n k : Nat) (h : k ≤ n) : (encB S n).extract 0 (encL S k).length = encB S k := by
  apply WideShapes.bytes_inj
  obtain ⟨t, ht⟩ := encL_pre S h
  rw [ext_list, encB_list, encB_list, ht, List.take_left]
theorem encL_next (S : Nat → ByteArray) (k : Nat) : (encL S (k + 1)).length = (encL S k).length + (lenL ((S k).size : Int)).length + (S k).size := by
  rw [encL_succ, List.length_append]; unfold enc1; rw [List.length_append, list_len]; omega
end Go.Proofs.YtcnicdcjdieodaaDoor
