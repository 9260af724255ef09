import Derived.Test.YtpckadpnedfkkaaDoorGParse
namespace Go.Proofs.Gb
set_option linter.unusedVariables false
/-- what the steps so far can have come to. -/
def R (p : List St) (t : List UInt8) (k i : Nat) : Bool := mt (p.take k) (t.take i)
theorem R_zero (p : List St) (t : List UInt8) (i : Nat) (hi : i ≤ t.length) : R p t 0 i = decide (i = 0) := by
  unfold R
  rw [List.take_zero, mt_nil]
  cases i with
  | zero => simp
  | succ i =>
    cases t with
    | nil => simp at hi
    | cons b t => simp
theorem R_end (p : List St) (t : List UInt8) : R p t p.length t.length = mt p t := by unfold R; rw [List.take_length, List.take_length]
theorem take_at (p : List St) (k : Nat) (s : St) (h : p[k]? = some s) : p.take (k + 1) = p.take k ++ [s] := by
  rw [List.take_add_one, h]; rfl
theorem mt_snoc_nil (p : List St) (s : St) (h : s.any = true) : mt (p ++ [s]) [] = mt p [] := by
  apply Bool.eq_iff_iff.2
  rw [mt_append]
  constructor
  · rintro ⟨a, b, e, h1, _⟩
    have : a = [] := (List.append_eq_nil_iff.1 e.symm).1
    subst this; exact h1
  · intro h1; exact ⟨[], [], rfl, h1, by rw [mt_any h]; rfl⟩
theorem mt_star (s : St) (h : s.any = true) (t : List UInt8) : mt [s] t = true := by
  rw [mt_any h, sufs_iff]; exact ⟨t, [], by simp, rfl⟩
theorem mt_snoc_any (p : List St) (s : St) (h : s.any = true) (t : List UInt8) (x : UInt8) : mt (p ++ [s]) (t ++ [x]) = (mt p (t ++ [x]) || mt (p ++ [s]) t) := by
  apply Bool.eq_iff_iff.2
  rw [Bool.or_eq_true, mt_append, mt_append]
  constructor
  · rintro ⟨a, b, e, h1, _⟩
    rcases List.eq_nil_or_concat b with hb | ⟨b', y, hb⟩
    · subst hb
      left; rw [e]; simpa using h1
    · subst hb
      right
      rw [List.concat_eq_append, ← List.append_assoc] at e
      have := List.append_inj_left' e rfl
      exact ⟨a, b', this, h1, mt_star s h _⟩
  · rintro (h1 | ⟨a, b, e, h1, _⟩)
    · exact ⟨t ++ [x], [], by simp, h1, mt_star s h _⟩
    · exact ⟨a, b ++ [x], by rw [e, List.append_assoc], h1, mt_star s h _⟩
theorem mt_one1 (s : St) (h : s.any = false) (b : List UInt8) : mt [s] b = true ↔ ∃ y, b = [y] ∧ s.f y = true := by
  cases b with
  | nil => rw [mt_one_nil h]; constructor
           · intro h; cases h
           · rintro ⟨y, e, _⟩; cases e
  | cons y b =>
    rw [mt_one_cons h, mt_nil, Bool.and_eq_true, List.isEmpty_iff]
    constructor
    · rintro ⟨h1, rfl⟩; exact ⟨y, rfl, h1⟩
    · rintro ⟨z, e, h1⟩
      obtain ⟨rfl, rfl⟩ := List.cons.inj e
      exact ⟨h1, rfl⟩
theorem mt_snoc_one (p : List St) (s : St) (h : s.any = false) (t : List UInt8) (x : UInt8) : mt (p ++ [s]) (t ++ [x]) = (mt p t && s.f x) := by
  apply Bool.eq_iff_iff.2
  rw [Bool.and_eq_true, mt_append]
  constructor
  · rintro ⟨a, b, e, h1, h2⟩
    obtain ⟨y, rfl, h3⟩ := (mt_one1 s h b).1 h2
    have e1 := List.append_inj_left' e rfl
    have e2 := List.append_inj_right' e rfl
    have : x = y := by simpa using e2
    subst this; subst e1
    exact ⟨h1, h3⟩
  · rintro ⟨h1, h2⟩
    exact ⟨t, [x], rfl, h1, (mt_one1 s h _).2 ⟨x, rfl, h2⟩⟩
theorem mt_snoc_one_nil (p : List St) (s : St) (h : s.any = false) : mt (p ++ [s]) [] = false := by
  apply Bool.eq_false_iff.2
  intro hh
  obtain ⟨a, b, e, h1, h2⟩ := (mt_append _ _ _).1 hh
  obtain ⟨y, rfl, h3⟩ := (mt_one1 s h b).1 h2
  have := congrArg List.length e
  simp at this
theorem R_any0 (p : List St) (t : List UInt8) (k : Nat) (s : St) (h : p[k]? = some s) (ha : s.any = true) : R p t (k + 1) 0 = R p t k 0 := by
  unfold R; rw [take_at p k s h, List.take_zero]; exact mt_snoc_nil _ _ ha
theorem R_any (p : List St) (t : List UInt8) (k i : Nat) (s : St) (h : p[k]? = some s) (ha : s.any = true) (hi : i < t.length) : R p t (k + 1) (i + 1) = (R p t k (i + 1) || R p t (k + 1) i) := by
  unfold R; rw [take_at p k s h, List.take_add_one, List.getElem?_eq_getElem hi]; exact mt_snoc_any _ _ ha _ _
theorem R_one0 (p : List St) (t : List UInt8) (k : Nat) (s : St) (h : p[k]? = some s) (ha : s.any = false) : R p t (k + 1) 0 = false := by
  unfold R; rw [take_at p k s h, List.take_zero]; exact mt_snoc_one_nil _ _ ha
theorem R_one (p : List St) (t : List UInt8) (k i : Nat) (s : St) (h : p[k]? = some s) (ha : s.any = false) (x : UInt8) (hi : t[i]? = some x) : R p t (k + 1) (i + 1) = (R p t k i && s.f x) := by
  unfold R; rw [take_at p k s h, List.take_add_one, hi]; exact mt_snoc_one _ _ ha _ _
end Go.Proofs.Gb
