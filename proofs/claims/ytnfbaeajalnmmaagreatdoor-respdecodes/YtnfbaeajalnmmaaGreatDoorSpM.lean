import Derived.Test.YtnfbaeajalnmmaaGreatDoorBase
namespace Go.Proofs.YtnfbaeajalnmmaaGreatDoor.SP
open Go.RowKit
set_option linter.unusedVariables false
/-! Split as plain functions on bytes. -/
abbrev Bs := List UInt8
def bl (c : UInt8) : Bool := decide (c.toNat = 32) || (decide (9 ≤ c.toNat) && decide (c.toNat ≤ 13))
def ended : Bs → Bool
  | [] => true
  | c :: _ => bl c
/-- a hexadecimal digit. -/
def hx (c : UInt8) : Option Nat := if 48 ≤ c.toNat ∧ c.toNat ≤ 57 then some (c.toNat - 48) else if 97 ≤ c.toNat ∧ c.toNat ≤ 102 then some (c.toNat - 87) else if 65 ≤ c.toNat ∧ c.toNat ≤ 70 then some (c.toNat - 55) else none
def es (c : UInt8) : UInt8 := if c.toNat = 110 then 10 else if c.toNat = 114 then 13 else if c.toNat = 116 then 9 else if c.toNat = 98 then 8 else if c.toNat = 97 then 7 else c
/-- what two digits behind an x are; none where they aren't there. -/
def xx : Bs → Option (UInt8 × Bs)
  | a :: b :: r => match hx a, hx b with
    | some x, some y => some (UInt8.ofNat (16 * x + y), r)
    | _, _ => none
  | _ => none
theorem xx_len {l r : Bs} {c : UInt8} (h : xx l = some (c, r)) : r.length + 2 = l.length := by
  match l, h with
  | a :: b :: r', h =>
    simp only [xx] at h
    split at h
    · simp at h; rw [← h.2]; simp
    · simp at h
  | [a], h => simp [xx] at h
  | [], h => simp [xx] at h
/-- what stands behind a backslash in double quotes. -/
def esc : Bs → Option (UInt8 × Bs)
  | [] => none
  | c :: r => if c.toNat = 120 then (match xx r with
      | some x => some x
      | none => some (c, r)) else some (es c, r)
theorem esc_len {l r : Bs} {c : UInt8} (h : esc l = some (c, r)) : r.length < l.length := by
  match l, h with
  | [], h => simp [esc] at h
  | a :: t, h =>
    simp only [esc] at h
    split at h
    · split at h
      · rename_i x hx
        obtain ⟨x1, x2⟩ := x
        simp at h
        have := xx_len hx
        rw [← h.2]; simp; omega
      · simp at h; rw [← h.2]; simp
    · simp at h; rw [← h.2]; simp
/-- what stands behind a backslash in single quotes. -/
def esq : Bs → Option (UInt8 × Bs)
  | [] => none
  | c :: r => if c.toNat = 39 then some (c, r) else some (92, c :: r)
theorem esq_len {l r : Bs} {c : UInt8} (h : esq l = some (c, r)) : r.length ≤ l.length := by
  match l, h with
  | [], h => simp [esq] at h
  | a :: t, h =>
    simp only [esq] at h
    split at h
    · simp at h; rw [← h.2]; simp
    · simp at h; rw [← h.2]; simp
/-- what a backslash and what follows it are. -/
def bsl (d : Bool) (r : Bs) : UInt8 × Bs := match (if d then esc r else esq r) with
  | some x => x
  | none => (92, r)
theorem bsl_len (d : Bool) (r : Bs) : (bsl d r).2.length ≤ r.length := by
  unfold bsl
  split
  · rename_i x h
    obtain ⟨c, t⟩ := x
    cases d with
    | true => exact Nat.le_of_lt (esc_len (by simpa using h))
    | false => exact esq_len (by simpa using h)
  · exact Nat.le_refl _
def qc (d : Bool) : Nat := if d then 34 else 39
/-- from behind a quote on: the text, with what came ahead of it, and what is behind the closing quote. -/
def qT (d : Bool) (acc : Bs) (l : Bs) : Option (Bs × Bs) := match l with
  | [] => none
  | c :: r => if c.toNat = qc d then some (acc, r) else if c.toNat = 92 then qT d (acc ++ [(bsl d r).1]) (bsl d r).2 else qT d (acc ++ [c]) r
termination_by l.length
decreasing_by
  · have := bsl_len d r; simp; omega
  · simp
/-- a word. -/
def tk (acc : Bs) (l : Bs) : Option (Bs × Bs) := match l with
  | [] => some (acc, [])
  | c :: r => if bl c then some (acc, c :: r) else if c.toNat = 34 then (match qT true acc r with
      | some (a, t) => if ended t then some (a, t) else none
      | none => none) else if c.toNat = 39 then (match qT false acc r with
      | some (a, t) => if ended t then some (a, t) else none
      | none => none) else tk (acc ++ [c]) r
def skp : Bs → Bs
  | [] => []
  | c :: r => if bl c then skp r else c :: r
theorem skp_len : ∀ l : Bs, (skp l).length ≤ l.length
  | [] => Nat.le_refl _
  | c :: r => by
    unfold skp
    have := skp_len r
    split
    · simp; omega
    · exact Nat.le_refl _
theorem qT_len (d : Bool) : ∀ (n : Nat) (l acc a t : Bs), l.length ≤ n → qT d acc l = some (a, t) → t.length < l.length
  | 0, l, acc, a, t, hn, h => by
    match l, hn, h with
    | [], _, h => unfold qT at h; simp at h
  | n + 1, l, acc, a, t, hn, h => by
    match l, hn, h with
    | [], _, h => unfold qT at h; simp at h
    | c :: r, hn, h =>
      unfold qT at h
      simp at hn
      have hb := bsl_len d r
      split at h
      · simp at h; rw [← h.2]; simp
      · split at h
        · have := qT_len d n _ _ _ _ (by omega) h
          simp; omega
        · have := qT_len d n _ _ _ _ hn h
          simp; omega
theorem tk_len : ∀ (l acc a t : Bs), tk acc l = some (a, t) → ended l = false → t.length < l.length
  | [], acc, a, t, h, hb => by simp [ended] at hb
  | c :: r, acc, a, t, h, hb => by
    have hbc : bl c = false := hb
    simp only [tk, hbc, Bool.false_eq_true, if_false] at h
    split at h
    · split at h
      · rename_i a' t' hq
        split at h
        · simp at h
          have := qT_len true r.length r acc a' t' (Nat.le_refl _) hq
          rw [← h.2]; simp; omega
        · simp at h
      · simp at h
    · split at h
      · split at h
        · rename_i a' t' hq
          split at h
          · simp at h
            have := qT_len false r.length r acc a' t' (Nat.le_refl _) hq
            rw [← h.2]; simp; omega
          · simp at h
        · simp at h
      · cases he : ended r with
        | false =>
          have := tk_len r _ _ _ h he
          simp; omega
        | true =>
          have : t = r := by
            match r, he, h with
            | [], _, h => simp [tk] at h; rw [← h.2]
            | c' :: r', he, h =>
              have hb' : bl c' = true := he
              simp only [tk, hb', if_true] at h
              simp at h; rw [← h.2]
          rw [this]; simp
/-- all words, with those that came ahead of them; k: more than there are bytes. -/
def sp : Nat → List Bs → Bs → Option (List Bs)
  | 0, _, _ => none
  | k + 1, out, l => match skp l with
    | [] => some out
    | c :: r => match tk [] (c :: r) with
      | some (a, t) => sp k (out ++ [a]) t
      | none => none
end Go.Proofs.YtnfbaeajalnmmaaGreatDoor.SP
