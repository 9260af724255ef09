import Derived.Test.YtcnicdcjdieodaaDoorIntMath
namespace Go.Proofs.Vi
set_option linter.unusedVariables false

def tl (l : List UInt8) : List UInt8 := l.drop 1
theorem tl_length (l : List UInt8) : (tl l).length = l.length - 1 := by simp [tl]
theorem tail_take (l : List UInt8) (i : Nat) (b : UInt8) (h : l[i + 1]? = some b) : (tl l).take (i + 1) = (tl l).take i ++ [b] := by
  unfold tl
  rw [List.take_add_one, List.getElem?_drop, show 1 + i = i + 1 by omega, h]; rfl
theorem take_more (l : List UInt8) (i : Nat) (b : UInt8) (h : l[i]? = some b) : l.take (i + 1) = l.take i ++ [b] := by
  rw [List.take_add_one, h]; rfl
theorem drop_more (l : List UInt8) (i : Nat) (b : UInt8) (h : l[i]? = some b) : l.drop i = b :: l.drop (i + 1) := by
  obtain ⟨hi, e⟩ := List.getElem?_eq_some_iff.1 h
  rw [List.drop_eq_getElem_cons hi, e]
def valF (a : Nat) (l : List UInt8) : Nat := l.foldl (fun a b => a * 256 + b.toNat) a
theorem valF_snoc (a : Nat) (l : List UInt8) (b : UInt8) : valF a (l ++ [b]) = valF a l * 256 + b.toNat := by simp [valF]
theorem valF_zero (l : List UInt8) : valF 0 l = val l := rfl
theorem valF_lt (a : Nat) : ∀ (k : Nat) (l : List UInt8), l.length = k → valF a l < (a + 1) * 256 ^ k := by
  intro k
  induction k with
  | zero => intro l h; rw [List.length_eq_zero_iff.1 h]; simp [valF]
  | succ k ih =>
    intro l h
    have hne : l ≠ [] := by intro e; rw [e] at h; simp at h
    obtain ⟨m, c, rfl⟩ : ∃ m c, l = m ++ [c] := ⟨l.dropLast, l.getLast hne, (List.dropLast_concat_getLast hne).symm⟩
    have := ih m (by simp at h; omega)
    have hc := c.toNat_lt
    rw [valF_snoc, Nat.pow_succ, ← Nat.mul_assoc]
    omega
theorem valF_small (a : Nat) (ha : a < 64) (l : List UInt8) (h : l.length ≤ 1) : valF a l < 16384 := by
  match l, h with
  | [], _ => simp [valF]; omega
  | [b], _ => have := b.toNat_lt; simp only [valF, List.foldl]; omega
theorem val_small (l : List UInt8) (h : l.length ≤ 7) : val l < 72057594037927936 := by
  have h1 := val_lt _ l rfl
  have h2 : (256 : Nat) ^ l.length ≤ 256 ^ 7 := Nat.pow_le_pow_right (by omega) h
  have h3 : (256 : Nat) ^ 7 = 72057594037927936 := rfl
  omega
theorem val_le_snoc (l : List UInt8) (b : UInt8) : val l * 256 ≤ val (l ++ [b]) := by rw [val_snoc]; omega
theorem val_take_le (l : List UInt8) (i : Nat) : val (l.take i) ≤ val l := by
  have key : ∀ (m : Nat) (t : List UInt8), t.length = m → ∀ a, val a ≤ val (a ++ t) := by
    intro m
    induction m with
    | zero => intro t ht a; rw [List.length_eq_zero_iff.1 ht]; simp
    | succ m ih =>
      intro t ht a
      match t, ht with
      | b :: t, ht =>
        have h1 := val_le_snoc a b
        have h2 := ih t (by simpa using ht) (a ++ [b])
        rw [show a ++ b :: t = a ++ [b] ++ t by simp]
        omega
  have := key _ (l.drop i) rfl (l.take i)
  rwa [List.take_append_drop] at this
theorem num_drop_lt (l : List UInt8) (k : Nat) (h : l.length ≤ 4) : num (l.drop k) < 4294967296 := by
  have h1 := num_lt (l.drop k)
  have h2 : (256 : Nat) ^ (l.drop k).length ≤ 256 ^ 4 := Nat.pow_le_pow_right (by omega) (by simp; omega)
  have h3 : (256 : Nat) ^ 4 = 4294967296 := rfl
  omega
theorem num_take_lt (l : List UInt8) (k : Nat) (h : k ≤ 4) : num (l.take k) < 256 ^ k := by
  have h1 := num_lt (l.take k)
  have h2 : (256 : Nat) ^ (l.take k).length ≤ 256 ^ k := Nat.pow_le_pow_right (by omega) (by simp; omega)
  omega
theorem be_take (x : Int) (n j : Nat) (h : j < n) : (beZ x n).take (n - j) = (beZ x n).take (n - (j + 1)) ++ [byteZ x j] := by
  rw [show n - j = n - (j + 1) + 1 by omega, List.take_add_one]
  have : (beZ x n)[n - (j + 1)]? = some (byteZ x j) := by
    unfold beZ
    rw [List.getElem?_map, List.getElem?_range (by omega)]
    simp; congr 1; omega
  rw [this]; rfl
theorem le_take (x : Int) (n j : Nat) (h : j < n) : (leZ x n).take (j + 1) = (leZ x n).take j ++ [byteZ x j] := by
  rw [List.take_add_one]
  have : (leZ x n)[j]? = some (byteZ x j) := by
    unfold leZ
    rw [List.getElem?_map, List.getElem?_range (by omega)]
    simp
  rw [this]; rfl
end Go.Proofs.Vi
