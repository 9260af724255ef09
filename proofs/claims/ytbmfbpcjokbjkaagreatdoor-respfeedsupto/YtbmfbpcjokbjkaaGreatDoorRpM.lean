import Derived.Test.YtbmfbpcjokbjkaaGreatDoorGI
import Derived.Test.YtbmfbpcjokbjkaaGreatDoorGC
namespace Go.Proofs.YtbmfbpcjokbjkaaGreatDoor
open Go.RowKit
set_option linter.unusedVariables false
set_option linter.unusedSimpArgs false
theorem qT_app (d : Bool) : ∀ (n : Nat) (l acc acc' : SP.Bs), l.length ≤ n → SP.qT d (acc ++ acc') l = (SP.qT d acc' l).map (fun p => (acc ++ p.1, p.2))
  | 0, l, acc, acc', hn => by
    match l, hn with
    | [], _ => unfold SP.qT; rfl
  | n + 1, l, acc, acc', hn => by
    match l, hn with
    | [], _ => unfold SP.qT; rfl
    | c :: r, hn =>
      have hb := SP.bsl_len d r
      simp at hn
      unfold SP.qT
      split
      · rfl
      · split
        · rw [List.append_assoc]; exact qT_app d n _ _ _ (by omega)
        · rw [List.append_assoc]; exact qT_app d n _ _ _ hn
theorem qT_acc (d : Bool) (acc l : SP.Bs) : SP.qT d acc l = (SP.qT d [] l).map (fun p => (acc ++ p.1, p.2)) := by
  have := qT_app d l.length l acc [] (Nat.le_refl _)
  rwa [List.append_nil] at this
theorem strB_app (l : List UInt8) (s : ByteArray) : strB l ++ s = strB (l ++ s.data.toList) := by
  have h : (strB l ++ s).data.toList = l ++ s.data.toList := by rw [ByteArray.data_append]; simp [strB]
  rw [← strB_of (strB l ++ s), h]
theorem strB_two (l m : List UInt8) : strB l ++ strB m = strB (l ++ m) := by rw [strB_app, strB_list]
theorem strB_one (l : List UInt8) (s : ByteArray) (j : Nat) (h : j < s.size) : strB l ++ s.extract j (j + 1) = strB (l ++ [s[j]]) := by
  rw [strB_app]
  congr 2
  have h2 : (s.extract j (j + 1)).data.toList = (s.data.toList.drop j).take 1 := by
    rw [ByteArray.data_extract]; simp
  rw [h2, drop_at s j h]; rfl
theorem skp_bl (s : ByteArray) (j : Nat) (h : j < s.size) (hb : SP.bl s[j] = true) : SP.skp (s.data.toList.drop j) = SP.skp (s.data.toList.drop (j + 1)) := by
  rw [drop_at s j h]; simp only [SP.skp, hb, if_true]
theorem skp_no (s : ByteArray) (j : Nat) (h : j < s.size) (hb : SP.bl s[j] = false) : SP.skp (s.data.toList.drop j) = s.data.toList.drop j := by
  rw [drop_at s j h]; simp only [SP.skp, hb, Bool.false_eq_true, if_false]
theorem end_no (s : ByteArray) (j : Nat) (h : j < s.size) (hb : SP.bl s[j] = false) : SP.ended (s.data.toList.drop j) = false := by rw [drop_at s j h]; exact hb
theorem end_bl (s : ByteArray) (j : Nat) (h : j < s.size) (hb : SP.bl s[j] = true) : SP.ended (s.data.toList.drop j) = true := by rw [drop_at s j h]; exact hb
theorem end_nil (s : ByteArray) (j : Nat) (h : ¬ j < s.size) : SP.ended (s.data.toList.drop j) = true := by
  rw [List.drop_eq_nil_of_le (by rw [list_len]; omega)]; rfl
theorem tk_end (acc l : SP.Bs) (h : SP.ended l = true) : SP.tk acc l = some (acc, l) := by
  match l, h with
  | [], _ => rfl
  | c :: r, h =>
    have hb : SP.bl c = true := h
    unfold SP.tk; rw [if_pos hb]
theorem tk_plain (acc : SP.Bs) (s : ByteArray) (j : Nat) (h : j < s.size) (hb : SP.bl s[j] = false) (h1 : ¬ s[j].toNat = 34) (h2 : ¬ s[j].toNat = 39) : SP.tk acc (s.data.toList.drop j) = SP.tk (acc ++ [s[j]]) (s.data.toList.drop (j + 1)) := by
  rw [drop_at s j h, SP.tk, if_neg (by rw [hb]; decide), if_neg h1, if_neg h2]
theorem tk_q (d : Bool) (acc : SP.Bs) (s : ByteArray) (j : Nat) (h : j < s.size) (hb : SP.bl s[j] = false) (h1 : s[j].toNat = SP.qc d) : SP.tk acc (s.data.toList.drop j) = match SP.qT d [] (s.data.toList.drop (j + 1)) with
      | some (a, t) => if SP.ended t then some (acc ++ a, t) else none
      | none => none := by
  rw [drop_at s j h, SP.tk, if_neg (by rw [hb]; decide)]
  cases d with
  | true =>
    have h3 : s[j].toNat = 34 := h1
    rw [if_pos h3, qT_acc true acc]
    cases SP.qT true [] (s.data.toList.drop (j + 1)) with
    | none => rfl
    | some p => rfl
  | false =>
    have h3 : s[j].toNat = 39 := h1
    rw [if_neg (by omega), if_pos h3, qT_acc false acc]
    cases SP.qT false [] (s.data.toList.drop (j + 1)) with
    | none => rfl
    | some p => rfl
end Go.Proofs.YtbmfbpcjokbjkaaGreatDoor
