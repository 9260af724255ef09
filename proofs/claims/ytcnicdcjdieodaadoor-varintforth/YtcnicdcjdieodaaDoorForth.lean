import Derived.Test.YtcnicdcjdieodaaDoorTup
import Derived.Test.YtcnicdcjdieodaaDoorWrites
namespace Go.Proofs.YtcnicdcjdieodaaDoor
open Go.RowKit Vi
set_option linter.unusedVariables false

/-- Len's answer: an error; a special byte; a length. -/
def LenIs (s : ByteArray) : Prop :=
  (∃ n sz sp e : Int, e ≠ 0 ∧ ∀ w : World, Calls Tryd.prog 10 #[.string s] w fun x w' => x = .returned (.tuple #[.int .i64 n, .int .i64 sz, .int .i64 sp, .int .i64 e]) ∧ w' = w) ∨
  (∃ n sz sp : Int, sp ≠ 0 ∧ ∀ w : World, Calls Tryd.prog 10 #[.string s] w fun x w' => x = .returned (.tuple #[.int .i64 n, .int .i64 sz, .int .i64 sp, .int .i64 0]) ∧ w' = w) ∨
  (∃ (n : Int) (k : Nat), 0 ≤ n ∧ n ≤ 4611686018427387904 ∧ 1 ≤ k ∧ k ≤ 9 ∧ k ≤ s.size ∧ lenL n = s.data.toList.take k ∧
      ∀ w : World, Calls Tryd.prog 10 #[.string s] w fun x w' => x = .returned (.tuple #[.int .i64 n, .int .i64 (k : Int), .int .i64 0, .int .i64 0]) ∧ w' = w)
theorem len_is (s : ByteArray) : LenIs s := by
  by_cases he : (readLen s.data.toList).err = 0
  · by_cases hp : (readLen s.data.toList).special = 0
    · obtain ⟨h0, h1, k, hk, k1, k9, ks, e⟩ := readLen_back s.data.toList (readLen s.data.toList).n (readLen s.data.toList).size (by
        cases h : readLen s.data.toList with
        | mk a b c d => rw [h] at he hp; simp at he hp; rw [he, hp])
      rw [list_len] at ks
      refine Or.inr (Or.inr ⟨_, k, h0, h1, k1, k9, ks, e, fun w => ?_⟩)
      have h := len_any s w
      unfold lenT at h
      rw [he, hp, hk] at h
      exact h
    · refine Or.inr (Or.inl ⟨(readLen s.data.toList).n, (readLen s.data.toList).size, (readLen s.data.toList).special, hp, fun w => ?_⟩)
      have h := len_any s w
      unfold lenT at h
      rw [he] at h
      exact h
  · exact Or.inl ⟨_, _, _, _, he, fun w => len_any s w⟩
def IntIs (s : ByteArray) : Prop :=
  (∃ n sz e : Int, e ≠ 0 ∧ ∀ w : World, Calls Tryd.prog 12 #[.string s] w fun x w' => x = .returned (.tuple #[.int .i64 n, .int .i64 sz, .int .i64 e]) ∧ w' = w) ∨
  (∃ (n : Int) (k : Nat), -2147483648 ≤ n ∧ n < 2147483648 ∧ 1 ≤ k ∧ k ≤ 5 ∧ k ≤ s.size ∧ intL n = s.data.toList.take k ∧
      ∀ w : World, Calls Tryd.prog 12 #[.string s] w fun x w' => x = .returned (.tuple #[.int .i64 n, .int .i64 (k : Int), .int .i64 0]) ∧ w' = w)
theorem int_is (s : ByteArray) : IntIs s := by
  by_cases he : (readInt s.data.toList).err = 0
  · obtain ⟨h01, k, hk, k1, k9, ks, e⟩ := readInt_back s.data.toList (readInt s.data.toList).n (readInt s.data.toList).size (by
      cases h : readInt s.data.toList with
      | mk a b d => rw [h] at he; simp at he; rw [he])
    rw [list_len] at ks
    refine Or.inr ⟨_, k, h01.1, h01.2, k1, k9, ks, e, fun w => ?_⟩
    have h := int_any s w
    unfold intT at h
    rw [he, hk] at h
    exact h
  · exact Or.inl ⟨_, _, _, he, fun w => int_any s w⟩
theorem cut_same {s t : ByteArray} {k : Nat} (h : t.data.toList = s.data.toList.take k) : (t.toList == (s.extract 0 k).toList) = true :=
  str_same (by rw [ext_list]; exact h)
theorem len_cut (s : ByteArray) (n : Int) (k : Nat) (h0 : 0 ≤ n) (h1 : n ≤ 4611686018427387904) (e : lenL n = s.data.toList.take k) (j : Nat) (hj : j < k) (hk : k ≤ s.size) (w : World) :
    Calls Tryd.prog 10 #[.string (s.extract 0 j)] w fun x w' => x = .returned (.tuple #[.int .i64 0, .int .i64 0, .int .i64 0, .int .i64 20]) ∧ w' = w := by
  have h := len_any (s.extract 0 j) w
  have hl : (lenL n).length = k := by rw [e, List.length_take, list_len]; omega
  have e2 : (s.extract 0 j).data.toList = (lenL n).take j := by rw [ext_list, e, List.take_take, show min j k = j by omega]
  rw [e2, lenT_eq (readLen_short n h0 h1 j (by omega))] at h
  exact h
/-- what is behind Number's call. -/
theorem itoaB_list2 (n : Int) : (itoaB n).data.toList = Lib.itoa n := by unfold itoaB; simp
end Go.Proofs.YtcnicdcjdieodaaDoor
