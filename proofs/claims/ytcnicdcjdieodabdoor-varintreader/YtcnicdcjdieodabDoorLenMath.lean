namespace Go.Proofs.Vi

def byteZ (x : Int) (i : Nat) : UInt8 := UInt8.ofNat (x / 256 ^ i % 256).toNat
def leZ (x : Int) (k : Nat) : List UInt8 := (List.range k).map (byteZ x)
def beZ (x : Int) (k : Nat) : List UInt8 := (List.range k).map fun t => byteZ x (k - 1 - t)
theorem leZ_length (x : Int) (k : Nat) : (leZ x k).length = k := by simp [leZ]
theorem beZ_length (x : Int) (k : Nat) : (beZ x k).length = k := by simp [beZ]
theorem byteZ_eq {x : Int} {i : Nat} {b : UInt8} (h : x / 256 ^ i % 256 = (b.toNat : Int)) : byteZ x i = b := by
  unfold byteZ
  rw [h]
  apply UInt8.toNat_inj.1
  rw [UInt8.toNat_ofNat']
  have := b.toNat_lt
  simp
theorem byteZ_toNat (x : Int) (i : Nat) : ((byteZ x i).toNat : Int) = x / 256 ^ i % 256 := by
  unfold byteZ
  rw [UInt8.toNat_ofNat']
  omega
theorem leZ_one (x : Int) : leZ x 1 = [byteZ x 0] := rfl
theorem leZ_two (x : Int) : leZ x 2 = [byteZ x 0, byteZ x 1] := rfl
theorem leZ_four (x : Int) : leZ x 4 = [byteZ x 0, byteZ x 1, byteZ x 2, byteZ x 3] := rfl
theorem beZ_one (x : Int) : beZ x 1 = [byteZ x 0] := rfl
theorem beZ_two (x : Int) : beZ x 2 = [byteZ x 1, byteZ x 0] := rfl
theorem beZ_four (x : Int) : beZ x 4 = [byteZ x 3, byteZ x 2, byteZ x 1, byteZ x 0] := rfl
theorem beZ_eight (x : Int) : beZ x 8 = [byteZ x 7, byteZ x 6, byteZ x 5, byteZ x 4, byteZ x 3, byteZ x 2, byteZ x 1, byteZ x 0] := rfl

/-- bytes as a number, the highest first. -/
def val (l : List UInt8) : Nat := l.foldl (fun a b => a * 256 + b.toNat) 0
theorem val_snoc (l : List UInt8) (b : UInt8) : val (l ++ [b]) = val l * 256 + b.toNat := by simp [val]
theorem val_lt : ∀ (k : Nat) (l : List UInt8), l.length = k → val l < 256 ^ k := by
  intro k
  induction k with
  | zero => intro l h; rw [List.length_eq_zero_iff.1 h]; decide
  | succ k ih =>
    intro l h
    have hne : l ≠ [] := by intro e; rw [e] at h; simp at h
    obtain ⟨m, c, rfl⟩ : ∃ m c, l = m ++ [c] := ⟨l.dropLast, l.getLast hne, (List.dropLast_concat_getLast hne).symm⟩
    have := ih m (by simp at h; omega)
    have hc := c.toNat_lt
    rw [val_snoc, Nat.pow_succ]
    omega

/-- a length's bytes. -/
def lenL (n : Int) : List UInt8 :=
  if n < 64 then beZ n 1 else if n < 16384 then beZ (n + 16384) 2 else if n < 4294967296 then 128 :: beZ n 4 else 129 :: beZ n 8
theorem lenL_length (n : Int) : (lenL n).length = if n < 64 then 1 else if n < 16384 then 2 else if n < 4294967296 then 5 else 9 := by
  unfold lenL
  split
  · simp [beZ_length]
  · split
    · simp [beZ_length]
    · split <;> simp [beZ_length]
theorem lenL_le (n : Int) : (lenL n).length ≤ 9 := by
  rw [lenL_length]; split
  · omega
  · split
    · omega
    · split <;> omega

structure LenR where
  n : Int
  size : Int
  special : Int
  err : Int

/-- what stands at the beginning. -/
def readLen (l : List UInt8) : LenR :=
  match l with
  | [] => ⟨0, 0, 0, 20⟩
  | b :: r =>
    if b.toNat < 64 then ⟨b.toNat, 1, 0, 0⟩
    else if b.toNat < 128 then
      if r.length < 1 then ⟨0, 0, 0, 20⟩
      else if (b.toNat : Int) * 256 + val (r.take 1) - 16384 < 64 then ⟨0, 0, 0, 21⟩ else ⟨(b.toNat : Int) * 256 + val (r.take 1) - 16384, 2, 0, 0⟩
    else if b.toNat = 128 then
      if r.length < 4 then ⟨0, 0, 0, 20⟩
      else if val (r.take 4) < 16384 then ⟨0, 0, 0, 21⟩ else ⟨val (r.take 4), 5, 0, 0⟩
    else if b.toNat = 129 then
      if r.length < 8 then ⟨0, 0, 0, 20⟩
      else if val (r.take 8) < 4294967296 ∨ 4611686018427387904 < val (r.take 8) then ⟨0, 0, 0, 21⟩ else ⟨val (r.take 8), 9, 0, 0⟩
    else if 192 ≤ b.toNat ∧ b.toNat ≤ 195 then ⟨0, 1, (b.toNat : Int) - 191, 0⟩
    else ⟨0, 0, 0, 21⟩

theorem list1 {l : List UInt8} (h : l.length = 1) : ∃ a, l = [a] := by
  match l, h with
  | [a], _ => exact ⟨a, rfl⟩
theorem list2 {l : List UInt8} (h : l.length = 2) : ∃ a b, l = [a, b] := by
  match l, h with
  | [a, b], _ => exact ⟨a, b, rfl⟩
theorem list4 {l : List UInt8} (h : l.length = 4) : ∃ a b c d, l = [a, b, c, d] := by
  match l, h with
  | [a, b, c, d], _ => exact ⟨a, b, c, d, rfl⟩
theorem list8 {l : List UInt8} (h : l.length = 8) : ∃ a b c d e f g i, l = [a, b, c, d, e, f, g, i] := by
  match l, h with
  | [a, b, c, d, e, f, g, i], _ => exact ⟨a, b, c, d, e, f, g, i, rfl⟩
theorem be_val4 (l : List UInt8) (h : l.length = 4) : beZ (val l) 4 = l := by
  obtain ⟨a, b, c, d, rfl⟩ := list4 h
  have ha := a.toNat_lt; have hb := b.toNat_lt; have hc := c.toNat_lt; have hd := d.toNat_lt
  rw [beZ_four]
  simp only [val, List.foldl]
  rw [byteZ_eq (b := a) (by omega), byteZ_eq (b := b) (by omega), byteZ_eq (b := c) (by omega), byteZ_eq (b := d) (by omega)]
theorem be_val8 (l : List UInt8) (h : l.length = 8) : beZ (val l) 8 = l := by
  obtain ⟨a, b, c, d, e, f, g, i, rfl⟩ := list8 h
  have ha := a.toNat_lt; have hb := b.toNat_lt; have hc := c.toNat_lt; have hd := d.toNat_lt
  have he := e.toNat_lt; have hf := f.toNat_lt; have hg := g.toNat_lt; have hi := i.toNat_lt
  rw [beZ_eight]
  simp only [val, List.foldl]
  rw [byteZ_eq (b := a) (by omega), byteZ_eq (b := b) (by omega), byteZ_eq (b := c) (by omega), byteZ_eq (b := d) (by omega), byteZ_eq (b := e) (by omega), byteZ_eq (b := f) (by omega), byteZ_eq (b := g) (by omega), byteZ_eq (b := i) (by omega)]
theorem be_two (a b : UInt8) : beZ ((a.toNat : Int) * 256 + b.toNat) 2 = [a, b] := by
  have ha := a.toNat_lt; have hb := b.toNat_lt
  rw [beZ_two, byteZ_eq (b := a) (by omega), byteZ_eq (b := b) (by omega)]
theorem val_be4 (n : Int) (h0 : 0 ≤ n) (h1 : n < 4294967296) : (val (beZ n 4) : Int) = n := by
  rw [beZ_four]
  have h0 := byteZ_toNat n 0; have h1 := byteZ_toNat n 1; have h2 := byteZ_toNat n 2; have h3 := byteZ_toNat n 3
  simp only [val, List.foldl]
  omega
theorem val_be8 (n : Int) (h0 : 0 ≤ n) (h1 : n < 18446744073709551616) : (val (beZ n 8) : Int) = n := by
  rw [beZ_eight]
  have h0 := byteZ_toNat n 0; have h1 := byteZ_toNat n 1; have h2 := byteZ_toNat n 2; have h3 := byteZ_toNat n 3
  have h4 := byteZ_toNat n 4; have h5 := byteZ_toNat n 5; have h6 := byteZ_toNat n 6; have h7 := byteZ_toNat n 7
  simp only [val, List.foldl]
  omega

/-- a length's bytes, with anything behind. -/
theorem readLen_lenL (n : Int) (h0 : 0 ≤ n) (h1 : n ≤ 4611686018427387904) (t : List UInt8) : readLen (lenL n ++ t) = ⟨n, (lenL n).length, 0, 0⟩ := by
  rw [lenL_length]
  unfold lenL
  by_cases c1 : n < 64
  · have h := byteZ_toNat n 0
    rw [if_pos c1, if_pos c1, beZ_one]
    simp only [List.cons_append, List.nil_append, readLen]
    rw [if_pos (by omega)]
    simp; omega
  · rw [if_neg c1, if_neg c1]
    by_cases c2 : n < 16384
    · have h0 := byteZ_toNat (n + 16384) 0
      have h1 := byteZ_toNat (n + 16384) 1
      rw [if_pos c2, if_pos c2, beZ_two]
      simp only [List.cons_append, List.nil_append, readLen, List.length_cons, List.take, val, List.foldl]
      rw [if_neg (by omega), if_pos (by omega), if_neg (by omega), if_neg (by omega)]
      simp; omega
    · rw [if_neg c2, if_neg c2]
      by_cases c3 : n < 4294967296
      · rw [if_pos c3, if_pos c3]
        have hv := val_be4 n h0 c3
        have hl : (beZ n 4).length = 4 := beZ_length n 4
        simp only [List.cons_append, readLen]
        rw [if_neg (by decide), if_neg (by decide), if_pos (by decide), if_neg (by simp; omega), List.take_left' hl, if_neg (by omega), hv]; rfl
      · rw [if_neg c3, if_neg c3]
        have hv := val_be8 n h0 (by omega)
        have hl : (beZ n 8).length = 8 := beZ_length n 8
        simp only [List.cons_append, readLen]
        rw [if_neg (by decide), if_neg (by decide), if_neg (by decide), if_pos (by decide), if_neg (by simp; omega), List.take_left' hl, if_neg (by omega), hv]; rfl

/-- what is read of any bytes is written again as it was. -/
theorem readLen_back (l : List UInt8) (n sz : Int) (h : readLen l = ⟨n, sz, 0, 0⟩) :
    0 ≤ n ∧ n ≤ 4611686018427387904 ∧ ∃ k : Nat, sz = k ∧ 1 ≤ k ∧ k ≤ 9 ∧ k ≤ l.length ∧ lenL n = l.take k := by
  cases l with
  | nil => simp [readLen] at h
  | cons b r =>
    have hb := b.toNat_lt
    simp only [readLen] at h
    split at h
    · rename_i c
      simp only [LenR.mk.injEq, and_true] at h
      obtain ⟨rfl, rfl⟩ := h
      refine ⟨by omega, by omega, 1, rfl, by omega, by omega, by simp, ?_⟩
      unfold lenL
      rw [if_pos (by omega), beZ_one, byteZ_eq (b := b) (by omega)]; rfl
    · split at h
      · split at h
        · simp at h
        · rename_i c1 c2 c3
          split at h
          · simp at h
          · rename_i c4
            simp only [LenR.mk.injEq, and_true] at h
            obtain ⟨rfl, rfl⟩ := h
            match r, c3 with
            | c :: r, _ =>
              have hc := c.toNat_lt
              simp only [List.take, val, List.foldl] at c4 ⊢
              refine ⟨by omega, by omega, 2, rfl, by omega, by omega, by simp, ?_⟩
              unfold lenL
              rw [if_neg (by omega), if_pos (by omega), show ((b.toNat : Int) * 256 + ((0 * 256 + c.toNat : Nat) : Int) - 16384 + 16384) = (b.toNat : Int) * 256 + c.toNat by omega, be_two]; rfl
      · split at h
        · rename_i c1
          split at h
          · simp at h
          · rename_i c2
            split at h
            · simp at h
            · rename_i c3
              simp only [LenR.mk.injEq, and_true] at h
              obtain ⟨rfl, rfl⟩ := h
              have hl : (r.take 4).length = 4 := by simp; omega
              have hv := val_lt 4 _ hl
              refine ⟨by omega, by omega, 5, rfl, by omega, by omega, by simp; omega, ?_⟩
              unfold lenL
              rw [if_neg (by omega), if_neg (by omega), if_pos (by omega), be_val4 _ hl]
              have : b = 128 := UInt8.toNat_inj.1 c1
              rw [this]; rfl
        · split at h
          · rename_i c1
            split at h
            · simp at h
            · rename_i c2
              split at h
              · simp at h
              · rename_i c3
                simp only [LenR.mk.injEq, and_true] at h
                obtain ⟨rfl, rfl⟩ := h
                have hl : (r.take 8).length = 8 := by simp; omega
                refine ⟨by omega, by omega, 9, rfl, by omega, by omega, by simp; omega, ?_⟩
                unfold lenL
                rw [if_neg (by omega), if_neg (by omega), if_neg (by omega), be_val8 _ hl]
                have : b = 129 := UInt8.toNat_inj.1 c1
                rw [this]; rfl
          · split at h
            · simp only [LenR.mk.injEq, and_true] at h
              omega
            · simp at h
/-- a beginning of a length's bytes is none. -/
theorem readLen_short (n : Int) (h0 : 0 ≤ n) (h1 : n ≤ 4611686018427387904) (i : Nat) (hi : i < (lenL n).length) : readLen ((lenL n).take i) = ⟨0, 0, 0, 20⟩ := by
  cases i with
  | zero => rfl
  | succ i =>
    rw [lenL_length] at hi
    unfold lenL
    by_cases c1 : n < 64
    · rw [if_pos c1] at hi; omega
    · rw [if_neg c1] at hi ⊢
      by_cases c2 : n < 16384
      · rw [if_pos c2] at hi
        have h0 := byteZ_toNat (n + 16384) 1
        rw [if_pos c2, beZ_two, show i = 0 by omega]
        simp only [List.take, readLen, List.length_nil]
        rw [if_neg (by omega), if_pos (by omega), if_pos (by omega)]
      · rw [if_neg c2] at hi ⊢
        by_cases c3 : n < 4294967296
        · rw [if_pos c3] at hi ⊢
          simp only [List.take_succ_cons, readLen]
          rw [if_neg (by decide), if_neg (by decide), if_pos (by decide), if_pos (by simp; omega)]
        · rw [if_neg c3] at hi ⊢
          simp only [List.take_succ_cons, readLen]
          rw [if_neg (by decide), if_neg (by decide), if_neg (by decide), if_pos (by decide), if_pos (by simp; omega)]
theorem readLen_range (l : List UInt8) : -1 ≤ (readLen l).n ∧ (readLen l).n ≤ 4611686018427387904 ∧ 0 ≤ (readLen l).size ∧ (readLen l).size ≤ 9 ∧ (readLen l).size ≤ l.length ∧ ((readLen l).err = 0 ∨ (readLen l).err = 20 ∨ (readLen l).err = 21) := by
  cases l with
  | nil => simp [readLen]
  | cons b r =>
    have hb := b.toNat_lt
    simp only [readLen]
    split
    · simp; omega
    · split
      · split
        · simp; try omega
        · rename_i c3
          match r, c3 with
          | c :: r, _ =>
            have hc := c.toNat_lt
            simp only [List.take, val, List.foldl]
            split
            · simp; omega
            · simp; omega
      · split
        · split
          · simp; try omega
          · have hl : (r.take 4).length = 4 := by simp; omega
            have hv := val_lt 4 _ hl
            split
            · simp; try omega
            · simp; omega
        · split
          · split
            · simp; try omega
            · split
              · simp; try omega
              · simp; omega
          · split
            · simp; try omega
            · simp; try omega
end Go.Proofs.Vi
