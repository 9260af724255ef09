namespace Go.Proofs.Lz
set_option linter.unusedVariables false

/-- n bytes are copied, one by one, each from so many ahead. -/
def copyN : Nat → Nat → List UInt8 → List UInt8
  | 0, _, o => o
  | n + 1, b, o => copyN n b o ++ [(copyN n b o).getD ((copyN n b o).length - b) 0]
theorem copyN_succ (n b : Nat) (o : List UInt8) : copyN (n + 1) b o = copyN n b o ++ [(copyN n b o).getD ((copyN n b o).length - b) 0] := rfl
theorem copyN_length (n b : Nat) (o : List UInt8) : (copyN n b o).length = o.length + n := by
  induction n with
  | zero => rfl
  | succ n ih => rw [copyN_succ, List.length_append, ih]; simp; omega
/-- a copy's length, how far ahead it begins, and what stands behind the bytes that tell both. -/
def headC (c : Nat) (r : List UInt8) : Option (Nat × Nat × List UInt8) :=
  if c / 32 = 7 then
    match r with
    | x :: y :: r' => some (9 + x.toNat, c % 32 * 256 + y.toNat + 1, r')
    | _ => none
  else
    match r with
    | y :: r' => some (c / 32 + 2, c % 32 * 256 + y.toNat + 1, r')
    | _ => none
/-- what Unpack makes of what is left, behind what was made: the bytes and 0, or nothing and the error. -/
def unp (size : Nat) : Nat → List UInt8 → List UInt8 → List UInt8 × Int
  | 0, _, _ => ([], 0)
  | f + 1, l, o =>
    match l with
    | [] => if o.length < size then ([], 31) else (o, 0)
    | c :: r =>
      if c.toNat < 32 then
        if size < o.length + c.toNat + 1 then ([], 31)
        else if r.length < c.toNat + 1 then ([], 20)
        else unp size f (r.drop (c.toNat + 1)) (o ++ r.take (c.toNat + 1))
      else
        match headC c.toNat r with
        | none => ([], 20)
        | some (n, b, r') => if size < o.length + n then ([], 31) else if o.length < b then ([], 30) else unp size f r' (copyN n b o)
theorem headC_len {c : Nat} {r r' : List UInt8} {n b : Nat} (h : headC c r = some (n, b, r')) : r'.length < r.length := by
  unfold headC at h
  split at h
  · match r, h with
    | x :: y :: t, h => simp at h; obtain ⟨_, _, rfl⟩ := h; simp; omega
  · match r, h with
    | y :: t, h => simp at h; obtain ⟨_, _, rfl⟩ := h; simp
/-- how much is left to go makes no difference. -/
theorem unp_fuel (size : Nat) : ∀ (f g : Nat) (l o : List UInt8), l.length < f → l.length < g → unp size f l o = unp size g l o := by
  intro f
  induction f with
  | zero => intro g l o h; omega
  | succ f ih =>
    intro g l o hf hg
    cases g with
    | zero => omega
    | succ g =>
      match l with
      | [] => rfl
      | c :: r =>
        simp only [unp]
        simp only [List.length_cons] at hf hg
        by_cases h1 : c.toNat < 32
        · rw [if_pos h1, if_pos h1, ih g (r.drop (c.toNat + 1)) _ (by simp; omega) (by simp; omega)]
        · rw [if_neg h1, if_neg h1]
          cases hh : headC c.toNat r with
          | none => rfl
          | some q =>
            obtain ⟨n, b, r'⟩ := q
            have := headC_len hh
            simp only
            rw [ih g r' _ (by omega) (by omega)]
def unpack (l : List UInt8) (size : Int) : List UInt8 × Int := if size < 1 ∨ 524288 < size then ([], 1) else unp size.toNat (l.length + 1) l []
/-- what comes out has the size that was told, or is nothing. -/
theorem unp_bound (size : Nat) : ∀ (f : Nat) (l o : List UInt8), o.length ≤ size → l.length < f → ((unp size f l o).2 ≠ 0 ∧ (unp size f l o).1 = []) ∨ ((unp size f l o).2 = 0 ∧ (unp size f l o).1.length = size) := by
  intro f
  induction f with
  | zero => intro l o _ h; omega
  | succ f ih =>
    intro l o ho hl
    match l with
    | [] =>
      simp only [unp]
      by_cases h : o.length < size
      · rw [if_pos h]; left; exact ⟨by decide, rfl⟩
      · rw [if_neg h]; right; exact ⟨rfl, by show o.length = size; omega⟩
    | c :: r =>
      simp only [List.length_cons] at hl
      simp only [unp]
      by_cases h1 : c.toNat < 32
      · rw [if_pos h1]
        by_cases h2 : size < o.length + c.toNat + 1
        · rw [if_pos h2]; left; exact ⟨by decide, rfl⟩
        · rw [if_neg h2]
          by_cases h3 : r.length < c.toNat + 1
          · rw [if_pos h3]; left; exact ⟨by decide, rfl⟩
          · rw [if_neg h3]
            exact ih _ _ (by simp; omega) (by simp; omega)
      · rw [if_neg h1]
        cases hh : headC c.toNat r with
        | none => left; exact ⟨by simp, rfl⟩
        | some q =>
          obtain ⟨n, b, r'⟩ := q
          have := headC_len hh
          simp only
          by_cases h2 : size < o.length + n
          · rw [if_pos h2]; left; exact ⟨by decide, rfl⟩
          · rw [if_neg h2]
            by_cases h3 : o.length < b
            · rw [if_pos h3]; left; exact ⟨by decide, rfl⟩
            · rw [if_neg h3]
              exact ih _ _ (by rw [copyN_length]; omega) (by omega)
end Go.Proofs.Lz
