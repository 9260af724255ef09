import Derived.Test.YtcnicdcjdieodabDoorLenMath
namespace Go.Proofs.Vi

def waySz (n : Int) : Int := if n < 64 then 1 else if n < 16384 then 2 else if n < 4294967296 then 5 else 9
def wayTag (n : Int) : Int := if n < 64 then 0 else if n < 16384 then 64 else if n < 4294967296 then 128 else 129
theorem way_1 {n : Int} (h : n < 64) : waySz n = 1 ∧ wayTag n = 0 := by unfold waySz wayTag; rw [if_pos h, if_pos h]; exact ⟨rfl, rfl⟩
theorem way_2 {n : Int} (h0 : 64 ≤ n) (h : n < 16384) : waySz n = 2 ∧ wayTag n = 64 := by unfold waySz wayTag; rw [if_neg (by omega), if_pos h, if_neg (by omega), if_pos h]; exact ⟨rfl, rfl⟩
theorem way_5 {n : Int} (h0 : 16384 ≤ n) (h : n < 4294967296) : waySz n = 5 ∧ wayTag n = 128 := by
  unfold waySz wayTag; rw [if_neg (by omega), if_neg (by omega), if_pos h, if_neg (by omega), if_neg (by omega), if_pos h]; exact ⟨rfl, rfl⟩
theorem way_9 {n : Int} (h0 : 4294967296 ≤ n) : waySz n = 9 ∧ wayTag n = 129 := by
  unfold waySz wayTag; rw [if_neg (by omega), if_neg (by omega), if_neg (by omega), if_neg (by omega), if_neg (by omega), if_neg (by omega)]; exact ⟨rfl, rfl⟩

/-- the first form that a number fits; 3: none. -/
def leastF (n : Int) : Int := if -128 ≤ n ∧ n < 128 then 0 else if -32768 ≤ n ∧ n < 32768 then 1 else if -2147483648 ≤ n ∧ n < 2147483648 then 2 else 3
theorem least_0 {n : Int} (h : -128 ≤ n ∧ n < 128) : leastF n = 0 := by unfold leastF; rw [if_pos h]
theorem least_1 {n : Int} (h0 : ¬ (-128 ≤ n ∧ n < 128)) (h : -32768 ≤ n ∧ n < 32768) : leastF n = 1 := by unfold leastF; rw [if_neg h0, if_pos h]
theorem least_2 {n : Int} (h0 : ¬ (-32768 ≤ n ∧ n < 32768)) (h : -2147483648 ≤ n ∧ n < 2147483648) : leastF n = 2 := by unfold leastF; rw [if_neg (by omega), if_neg h0, if_pos h]
def intL (n : Int) : List UInt8 := if -128 ≤ n ∧ n < 128 then 192 :: leZ n 1 else if -32768 ≤ n ∧ n < 32768 then 193 :: leZ n 2 else 194 :: leZ n 4
theorem intL_0 {n : Int} (h : -128 ≤ n ∧ n < 128) : intL n = 192 :: leZ n 1 := by unfold intL; rw [if_pos h]
theorem intL_1 {n : Int} (h0 : ¬ (-128 ≤ n ∧ n < 128)) (h : -32768 ≤ n ∧ n < 32768) : intL n = 193 :: leZ n 2 := by unfold intL; rw [if_neg h0, if_pos h]
theorem intL_2 {n : Int} (h0 : ¬ (-32768 ≤ n ∧ n < 32768)) : intL n = 194 :: leZ n 4 := by unfold intL; rw [if_neg (by omega), if_neg h0]
theorem intL_le (n : Int) : 1 ≤ (intL n).length ∧ (intL n).length ≤ 5 := by
  unfold intL; split
  · simp [leZ_length]
  · split <;> simp [leZ_length]

/-- bytes as a number, the lowest first. -/
def num : List UInt8 → Nat
  | [] => 0
  | b :: l => b.toNat + 256 * num l
theorem num_lt : ∀ (l : List UInt8), num l < 256 ^ l.length
  | [] => by simp [num]
  | b :: l => by
    have := b.toNat_lt
    have := num_lt l
    simp only [num, List.length_cons, Nat.pow_succ]
    omega
theorem num_snoc (l : List UInt8) (b : UInt8) : num (l ++ [b]) = num l + b.toNat * 256 ^ l.length := by
  induction l with
  | nil => simp [num]
  | cons x l ih =>
    simp only [List.cons_append, num, List.length_cons, Nat.pow_succ, ih, Nat.mul_add]
    rw [Nat.mul_comm 256 (b.toNat * _), Nat.mul_assoc]
    omega
/-- in two's complement, of so many values. -/
def sgn (P m : Nat) : Int := if 2 * m < P then (m : Int) else (m : Int) - P
theorem sgn_lo {P m : Nat} (h : 2 * m < P) : sgn P m = m := by unfold sgn; rw [if_pos h]
theorem sgn_hi {P m : Nat} (h : P ≤ 2 * m) : sgn P m = (m : Int) - P := by unfold sgn; rw [if_neg (by omega)]
theorem le_num1 (l : List UInt8) (h : l.length = 1) : leZ (sgn 256 (num l)) 1 = l := by
  obtain ⟨a, rfl⟩ := list1 h
  have ha := a.toNat_lt
  rw [leZ_one]
  rcases Nat.lt_or_ge (2 * num [a]) 256 with hc0 | hc0
  all_goals
    first | rw [sgn_lo hc0] | rw [sgn_hi hc0]
    simp only [num] at hc0 ⊢
    rw [byteZ_eq (b := a) (by omega)]
theorem le_num2 (l : List UInt8) (h : l.length = 2) : leZ (sgn 65536 (num l)) 2 = l := by
  obtain ⟨a, b, rfl⟩ := list2 h
  have ha := a.toNat_lt; have hb := b.toNat_lt
  rw [leZ_two]
  rcases Nat.lt_or_ge (2 * num [a, b]) 65536 with hc0 | hc0
  all_goals
    first | rw [sgn_lo hc0] | rw [sgn_hi hc0]
    simp only [num] at hc0 ⊢
    rw [byteZ_eq (b := a) (by omega), byteZ_eq (b := b) (by omega)]
theorem le_num4 (l : List UInt8) (h : l.length = 4) : leZ (sgn 4294967296 (num l)) 4 = l := by
  obtain ⟨a, b, c, d, rfl⟩ := list4 h
  have ha := a.toNat_lt; have hb := b.toNat_lt; have hc := c.toNat_lt; have hd := d.toNat_lt
  rw [leZ_four]
  rcases Nat.lt_or_ge (2 * num [a, b, c, d]) 4294967296 with hc0 | hc0
  all_goals
    first | rw [sgn_lo hc0] | rw [sgn_hi hc0]
    simp only [num] at hc0 ⊢
    rw [byteZ_eq (b := a) (by omega), byteZ_eq (b := b) (by omega), byteZ_eq (b := c) (by omega), byteZ_eq (b := d) (by omega)]
theorem num_le1 (n : Int) (h : -128 ≤ n ∧ n < 128) : sgn 256 (num (leZ n 1)) = n := by
  have h0 := byteZ_toNat n 0
  rcases Nat.lt_or_ge (2 * num (leZ n 1)) 256 with hc0 | hc0
  all_goals
    first | rw [sgn_lo hc0] | rw [sgn_hi hc0]
    rw [leZ_one] at hc0 ⊢
    simp only [num] at hc0 ⊢
    omega
theorem num_le2 (n : Int) (h : -32768 ≤ n ∧ n < 32768) : sgn 65536 (num (leZ n 2)) = n := by
  have h0 := byteZ_toNat n 0; have h1 := byteZ_toNat n 1
  rcases Nat.lt_or_ge (2 * num (leZ n 2)) 65536 with hc0 | hc0
  all_goals
    first | rw [sgn_lo hc0] | rw [sgn_hi hc0]
    rw [leZ_two] at hc0 ⊢
    simp only [num] at hc0 ⊢
    omega
theorem num_le4 (n : Int) (h : -2147483648 ≤ n ∧ n < 2147483648) : sgn 4294967296 (num (leZ n 4)) = n := by
  have h0 := byteZ_toNat n 0; have h1 := byteZ_toNat n 1; have h2 := byteZ_toNat n 2; have h3 := byteZ_toNat n 3
  rcases Nat.lt_or_ge (2 * num (leZ n 4)) 4294967296 with hc0 | hc0
  all_goals
    first | rw [sgn_lo hc0] | rw [sgn_hi hc0]
    rw [leZ_four] at hc0 ⊢
    simp only [num] at hc0 ⊢
    omega

structure IntR where
  n : Int
  size : Int
  err : Int
def readInt (l : List UInt8) : IntR :=
  match l with
  | [] => ⟨0, 0, 20⟩
  | b :: r =>
    if b.toNat = 192 then
      if r.length < 1 then ⟨0, 0, 20⟩ else ⟨sgn 256 (num (r.take 1)), 2, 0⟩
    else if b.toNat = 193 then
      if r.length < 2 then ⟨0, 0, 20⟩ else if leastF (sgn 65536 (num (r.take 2))) = 1 then ⟨sgn 65536 (num (r.take 2)), 3, 0⟩ else ⟨0, 0, 21⟩
    else if b.toNat = 194 then
      if r.length < 4 then ⟨0, 0, 20⟩ else if leastF (sgn 4294967296 (num (r.take 4))) = 2 then ⟨sgn 4294967296 (num (r.take 4)), 5, 0⟩ else ⟨0, 0, 21⟩
    else ⟨0, 0, 21⟩
theorem sgn1_range (l : List UInt8) (h : l.length = 1) : -128 ≤ sgn 256 (num l) ∧ sgn 256 (num l) < 128 := by
  have := num_lt l; rw [h] at this; unfold sgn; split <;> omega
theorem sgn2_range (l : List UInt8) (h : l.length = 2) : -32768 ≤ sgn 65536 (num l) ∧ sgn 65536 (num l) < 32768 := by
  have := num_lt l; rw [h] at this; unfold sgn; split <;> omega
theorem sgn4_range (l : List UInt8) (h : l.length = 4) : -2147483648 ≤ sgn 4294967296 (num l) ∧ sgn 4294967296 (num l) < 2147483648 := by
  have := num_lt l; rw [h] at this; unfold sgn; split <;> omega
theorem readInt_intL (n : Int) (h : -2147483648 ≤ n ∧ n < 2147483648) (t : List UInt8) : readInt (intL n ++ t) = ⟨n, (intL n).length, 0⟩ := by
  by_cases c0 : -128 ≤ n ∧ n < 128
  · rw [intL_0 c0]
    simp only [List.cons_append, readInt]
    rw [if_pos (by decide), if_neg (by simp [leZ_length]), List.take_left' (leZ_length n 1), num_le1 n c0]
    simp [leZ_length]
  · by_cases c1 : -32768 ≤ n ∧ n < 32768
    · rw [intL_1 c0 c1]
      simp only [List.cons_append, readInt]
      rw [if_neg (by decide), if_pos (by decide), if_neg (by simp [leZ_length]), List.take_left' (leZ_length n 2), num_le2 n c1, if_pos (least_1 c0 c1)]
      simp [leZ_length]
    · rw [intL_2 c1]
      simp only [List.cons_append, readInt]
      rw [if_neg (by decide), if_neg (by decide), if_pos (by decide), if_neg (by simp [leZ_length]), List.take_left' (leZ_length n 4), num_le4 n h, if_pos (least_2 c1 h)]
      simp [leZ_length]
theorem least_eq1 {n : Int} (h : leastF n = 1) : ¬ (-128 ≤ n ∧ n < 128) ∧ (-32768 ≤ n ∧ n < 32768) := by
  unfold leastF at h; split at h
  · simp at h
  · split at h
    · exact ⟨‹_›, ‹_›⟩
    · split at h <;> simp at h
theorem least_eq2 {n : Int} (h : leastF n = 2) : ¬ (-32768 ≤ n ∧ n < 32768) ∧ (-2147483648 ≤ n ∧ n < 2147483648) := by
  unfold leastF at h; split at h
  · simp at h
  · split at h
    · simp at h
    · split at h
      · exact ⟨‹_›, ‹_›⟩
      · simp at h
theorem readInt_back (l : List UInt8) (n sz : Int) (h : readInt l = ⟨n, sz, 0⟩) :
    (-2147483648 ≤ n ∧ n < 2147483648) ∧ ∃ k : Nat, sz = k ∧ 1 ≤ k ∧ k ≤ 5 ∧ k ≤ l.length ∧ intL n = l.take k := by
  cases l with
  | nil => simp [readInt] at h
  | cons b r =>
    simp only [readInt] at h
    split at h
    · rename_i c
      split at h
      · simp at h
      · simp only [IntR.mk.injEq, and_true] at h
        obtain ⟨rfl, rfl⟩ := h
        have hl : (r.take 1).length = 1 := by simp; omega
        have hr := sgn1_range _ hl
        refine ⟨by omega, 2, rfl, by omega, by omega, by simp; omega, ?_⟩
        rw [intL_0 hr, le_num1 _ hl]
        have : b = 192 := UInt8.toNat_inj.1 c
        rw [this]; rfl
    · split at h
      · rename_i c
        split at h
        · simp at h
        · split at h
          · rename_i hf
            simp only [IntR.mk.injEq, and_true] at h
            obtain ⟨rfl, rfl⟩ := h
            have hl : (r.take 2).length = 2 := by simp; omega
            obtain ⟨f0, f1⟩ := least_eq1 hf
            refine ⟨by omega, 3, rfl, by omega, by omega, by simp; omega, ?_⟩
            rw [intL_1 f0 f1, le_num2 _ hl]
            have : b = 193 := UInt8.toNat_inj.1 c
            rw [this]; rfl
          · simp at h
      · split at h
        · rename_i c
          split at h
          · simp at h
          · split at h
            · rename_i hf
              simp only [IntR.mk.injEq, and_true] at h
              obtain ⟨rfl, rfl⟩ := h
              have hl : (r.take 4).length = 4 := by simp; omega
              obtain ⟨f0, f1⟩ := least_eq2 hf
              refine ⟨f1, 5, rfl, by omega, by omega, by simp; omega, ?_⟩
              rw [intL_2 f0, le_num4 _ hl]
              have : b = 194 := UInt8.toNat_inj.1 c
              rw [this]; rfl
            · simp at h
        · simp at h
theorem readInt_range (l : List UInt8) : -2147483648 ≤ (readInt l).n ∧ (readInt l).n < 2147483648 ∧ 0 ≤ (readInt l).size ∧ (readInt l).size ≤ 5 ∧ (readInt l).size ≤ l.length ∧ ((readInt l).err = 0 ∨ (readInt l).err = 20 ∨ (readInt l).err = 21) := by
  cases l with
  | nil => simp [readInt]
  | cons b r =>
    simp only [readInt]
    split
    · split
      · simp; omega
      · have := sgn1_range (r.take 1) (by simp; omega)
        simp; omega
    · split
      · split
        · simp; omega
        · have := sgn2_range (r.take 2) (by simp; omega)
          split
          · simp; omega
          · simp; omega
      · split
        · split
          · simp; omega
          · have := sgn4_range (r.take 4) (by simp; omega)
            split
            · simp; omega
            · simp; omega
        · simp; omega
end Go.Proofs.Vi
