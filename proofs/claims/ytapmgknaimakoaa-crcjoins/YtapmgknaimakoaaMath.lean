import Derived.Laws.Bits64b
import Derived.Laws.BitsAllLaws
namespace Go.Proofs.Ytapmgknaimakoaa.CrcM

def J : BitVec 64 := 0x95AC9329AC4BC9B5#64
def H (c : BitVec 64) : BitVec 64 := (c >>> 1) ^^^ (if c.getLsbD 0 then J else 0#64)
def Hn : Nat → BitVec 64 → BitVec 64
  | 0, c => c
  | n + 1, c => Hn n (H c)

theorem H_xor (a b : BitVec 64) : H (a ^^^ b) = H a ^^^ H b := by
  unfold H
  rw [BitVec.ushiftRight_xor_distrib, BitVec.getLsbD_xor]
  cases ha : a.getLsbD 0 <;> cases hb : b.getLsbD 0 <;> simp
  · ac_rfl
  · ac_rfl
  · rw [show a >>> 1 ^^^ J ^^^ (b >>> 1 ^^^ J) = a >>> 1 ^^^ b >>> 1 ^^^ (J ^^^ J) by ac_rfl]; simp

theorem H_zero : H 0#64 = 0#64 := by decide
theorem Hn_xor (n : Nat) (a b : BitVec 64) : Hn n (a ^^^ b) = Hn n a ^^^ Hn n b := by
  induction n generalizing a b with
  | zero => rfl
  | succ n ih => simp only [Hn]; rw [H_xor, ih]
theorem Hn_zero (n : Nat) : Hn n 0#64 = 0#64 := by
  induction n with
  | zero => rfl
  | succ n ih => simp only [Hn]; rw [H_zero, ih]
theorem Hn_add (m n : Nat) (c : BitVec 64) : Hn (m + n) c = Hn m (Hn n c) := by
  induction n generalizing c with
  | zero => rfl
  | succ n ih => rw [← Nat.add_assoc]; simp only [Hn]; rw [ih]
theorem Hn_succ (n : Nat) (c : BitVec 64) : Hn (n + 1) c = H (Hn n c) := by
  rw [Nat.add_comm, Hn_add]; rfl

theorem H_eq_zero (c : BitVec 64) (h : H c = 0#64) : c = 0#64 := by
  unfold H at h
  cases hl : c.getLsbD 0
  · rw [hl] at h
    simp only [Bool.false_eq_true, if_false, BitVec.xor_zero] at h
    apply BitVec.eq_of_getLsbD_eq
    intro i hi
    cases i with
    | zero => simpa using hl
    | succ i =>
      have := congrArg (fun x => x.getLsbD i) h
      simp only [BitVec.getLsbD_ushiftRight, BitVec.getLsbD_zero] at this
      rw [Nat.add_comm] at this
      simpa using this
  · rw [hl] at h
    have := congrArg (fun x => x.getLsbD 63) h
    simp only [if_true, BitVec.getLsbD_xor, BitVec.getLsbD_ushiftRight, BitVec.getLsbD_zero] at this
    rw [BitVec.getLsbD_of_ge c (1 + 63) (by omega)] at this
    exact absurd this (by decide)
theorem Hn_eq_zero (n : Nat) (c : BitVec 64) (h : Hn n c = 0#64) : c = 0#64 := by
  induction n generalizing c with
  | zero => exact h
  | succ n ih => exact H_eq_zero _ (ih _ h)

/-- no low bits: a turn is a shift. -/
theorem Hn_low (n : Nat) (c : BitVec 64) (h : ∀ i, i < n → c.getLsbD i = false) : Hn n c = c >>> n := by
  induction n with
  | zero => simp [Hn]
  | succ n ih =>
    rw [Hn_succ, ih (fun i hi => h i (by omega))]
    unfold H
    have : (c >>> n).getLsbD 0 = false := by simp only [BitVec.getLsbD_ushiftRight]; exact h n (by omega)
    rw [this]
    simp [BitVec.shiftRight_add]

theorem split8 (c : BitVec 64) : c = ((c >>> 8) <<< 8) ^^^ (c &&& 255#64) := by
  apply BitVec.eq_of_getLsbD_eq
  intro i hi
  simp only [BitVec.getLsbD_xor, BitVec.getLsbD_shiftLeft, BitVec.getLsbD_ushiftRight, BitVec.getLsbD_and]
  have e : (255#64).getLsbD i = decide (i < 8) := by
    revert i; decide
  rw [e]
  by_cases h8 : i < 8
  · simp [h8]
  · have : 8 + (i - 8) = i := by omega
    simp [h8, hi, this]

theorem Hn8 (c : BitVec 64) : Hn 8 c = (c >>> 8) ^^^ Hn 8 (c &&& 255#64) := by
  rw [split8 c, Hn_xor]
  rw [← split8 c]
  congr 1
  rw [Hn_low]
  · apply BitVec.eq_of_getLsbD_eq
    intro i hi
    simp only [BitVec.getLsbD_shiftLeft, BitVec.getLsbD_ushiftRight]
    by_cases hh : 8 + i < 64
    · simp [hh]
    · have := BitVec.getLsbD_of_ge c (8 + i) (by omega)
      simp [this]
  · intro i hi
    simp only [BitVec.getLsbD_shiftLeft]; simp [hi]

def upd (c : BitVec 64) (l : List UInt8) : BitVec 64 := l.foldl (fun c b => Hn 8 (c ^^^ BitVec.ofNat 64 b.toNat)) c
theorem upd_nil (c) : upd c [] = c := rfl
theorem upd_append (c) (l m : List UInt8) : upd c (l ++ m) = upd (upd c l) m := by simp [upd]
theorem upd_lin (a b : BitVec 64) (l : List UInt8) : upd a l ^^^ upd b l = Hn (8 * l.length) (a ^^^ b) := by
  induction l generalizing a b with
  | nil => rfl
  | cons x l ih =>
    show upd (Hn 8 _) l ^^^ upd (Hn 8 _) l = _
    rw [ih, List.length_cons, Nat.mul_succ, Hn_add, ← Hn_xor]
    congr 2
    rw [show a ^^^ BitVec.ofNat 64 x.toNat ^^^ (b ^^^ BitVec.ofNat 64 x.toNat) = a ^^^ b ^^^ (BitVec.ofNat 64 x.toNat ^^^ BitVec.ofNat 64 x.toNat) by ac_rfl]
    simp

def one : BitVec 64 := 1#64 <<< 63

theorem bit_pow (k i : Nat) (hk : k < 64) : (1#64 <<< k).getLsbD i = decide (i = k) := by
  simp only [BitVec.getLsbD_shiftLeft, BitVec.getLsbD_one]
  rw [Bool.eq_iff_iff]
  simp
  omega
theorem Hn_pow (j k : Nat) (h : j ≤ k) (hk : k < 64) : Hn j (1#64 <<< k) = 1#64 <<< (k - j) := by
  rw [Hn_low]
  · apply BitVec.eq_of_getLsbD_eq
    intro i hi
    rw [bit_pow _ _ (by omega), BitVec.getLsbD_ushiftRight, bit_pow _ _ hk]
    rw [Bool.eq_iff_iff]
    simp
    omega
  · intro i hi
    rw [bit_pow _ _ hk]
    simp; omega
theorem Hn_comm (m n : Nat) (c : BitVec 64) : Hn m (Hn n c) = Hn n (Hn m c) := by
  rw [← Hn_add, ← Hn_add, Nat.add_comm]
theorem xor_shuffle (a b c : BitVec 64) (h : a ^^^ b = c) (d : BitVec 64) : (a ^^^ d) ^^^ (b ^^^ d) = c := by
  rw [show a ^^^ d ^^^ (b ^^^ d) = a ^^^ b ^^^ (d ^^^ d) by ac_rfl, h]; simp

theorem shl_shr (a : BitVec 64) (j : Nat) (hj : j < 64) :
    (a <<< (j + 1)) >>> (j + 1) = ((a <<< j) >>> j) ^^^ (if (a <<< j).getLsbD 63 then 1#64 <<< (63 - j) else 0#64) := by
  apply BitVec.eq_of_getLsbD_eq
  intro i hi
  rw [BitVec.getLsbD_xor]
  have e : (if (a <<< j).getLsbD 63 then 1#64 <<< (63 - j) else 0#64).getLsbD i = ((a <<< j).getLsbD 63 && decide (i = 63 - j)) := by
    cases (a <<< j).getLsbD 63
    · simp
    · simp only [if_true, Bool.true_and]; rw [bit_pow _ _ (by omega)]
  rw [e]
  simp only [BitVec.getLsbD_ushiftRight, BitVec.getLsbD_shiftLeft]
  have e1 : j + 1 + i - (j + 1) = i := by omega
  have e2 : j + i - j = i := by omega
  have e3 : ¬ j + 1 + i < j + 1 := by omega
  have e4 : ¬ j + i < j := by omega
  have e5 : ¬ 63 < j := by omega
  rw [e1, e2]
  simp only [e3, e4, e5]
  by_cases hi3 : i = 63 - j
  · subst hi3
    have : ¬ j + 1 + (63 - j) < 64 := by omega
    have h2 : j + (63 - j) < 64 := by omega
    simp [this, h2]
  · by_cases h6 : j + 1 + i < 64
    · have : j + i < 64 := by omega
      simp [h6, this, hi3]
    · have : ¬ j + i < 64 := by omega
      simp [h6, this, hi3]

theorem mul_step (N j : Nat) (a p : BitVec 64) (hj : j < 64) (h : p ^^^ Hn N ((a <<< j) >>> j) = Hn N a) :
    (if (a <<< j).getLsbD 63 then p ^^^ Hn j (Hn N one) else p) ^^^ Hn N ((a <<< (j + 1)) >>> (j + 1)) = Hn N a := by
  rw [shl_shr a j hj, Hn_xor]
  cases (a <<< j).getLsbD 63
  · simpa [Hn_zero] using h
  · simp only [if_true]
    rw [Hn_comm j N, show Hn j one = 1#64 <<< (63 - j) from Hn_pow j 63 (by omega) (by omega)]
    exact xor_shuffle _ _ _ h _

/-- the lowest i bits. -/
def low (i : Nat) (c : BitVec 64) : BitVec 64 := BitVec.ofNat 64 (c.toNat % 2 ^ i)
theorem bit_low (i k : Nat) (c : BitVec 64) : (low i c).getLsbD k = (decide (k < i) && c.getLsbD k) := by
  unfold low
  rw [BitVec.getLsbD_ofNat, Nat.testBit_mod_two_pow]
  by_cases hk : k < 64
  · simp [hk, BitVec.getLsbD]
  · rw [BitVec.getLsbD_of_ge c k (by omega)]; simp [hk]
theorem low_zero (c : BitVec 64) : low 0 c = 0#64 := by
  unfold low; simp [Nat.mod_one]
theorem low_all (c : BitVec 64) (i : Nat) (h : 64 ≤ i) : low i c = c := by
  apply BitVec.eq_of_getLsbD_eq
  intro k hk
  rw [bit_low]
  have : k < i := by omega
  simp [this]
theorem low_succ (i : Nat) (c : BitVec 64) (hi : i < 64) : low (i + 1) c = low i c ^^^ (if c.getLsbD i then 1#64 <<< i else 0#64) := by
  apply BitVec.eq_of_getLsbD_eq
  intro k hk
  rw [BitVec.getLsbD_xor, bit_low, bit_low]
  have e : (if c.getLsbD i then 1#64 <<< i else 0#64).getLsbD k = (c.getLsbD i && decide (k = i)) := by
    cases c.getLsbD i
    · simp
    · simp only [if_true, Bool.true_and]; rw [bit_pow _ _ (by omega)]
  rw [e]
  by_cases h1 : k = i
  · subst h1; simp
  · by_cases h2 : k < i
    · have : k < i + 1 := by omega
      simp [h1, h2, this]
    · have : ¬ k < i + 1 := by omega
      simp [h1, h2, this]
theorem Hn_low_succ (N i : Nat) (c : BitVec 64) (hi : i < 64) :
    Hn N (low (i + 1) c) = if c.getLsbD i then Hn N (low i c) ^^^ Hn N (1#64 <<< i) else Hn N (low i c) := by
  rw [low_succ _ _ hi, Hn_xor]
  cases c.getLsbD i
  · simp [Hn_zero]
  · simp

/-- byte k of a number, the lowest first. -/
def byteOf (c : BitVec 64) (k : Nat) : UInt8 := UInt8.ofNat (c.toNat / 2 ^ (8 * k))
def bytesOf (c : BitVec 64) (k : Nat) : List UInt8 := (List.range k).map (byteOf c)
theorem bytesOf_succ (c : BitVec 64) (k : Nat) : bytesOf c (k + 1) = bytesOf c k ++ [byteOf c k] := by
  simp [bytesOf, List.range_succ]
theorem bytesOf_length (c : BitVec 64) (k : Nat) : (bytesOf c k).length = k := by simp [bytesOf]

def wide (b : UInt8) : BitVec 64 := BitVec.ofNat 64 b.toNat
theorem bit_wide (b : UInt8) (i : Nat) : (wide b).getLsbD i = b.toNat.testBit i := by
  unfold wide
  rw [BitVec.getLsbD_ofNat]
  by_cases hi : i < 64
  · simp [hi]
  · have : b.toNat.testBit i = false := Nat.testBit_lt_two_pow (Nat.lt_of_lt_of_le b.toNat_lt (Nat.pow_le_pow_right (by omega) (by omega : 8 ≤ i)))
    simp [this]
theorem bit_byteOf (c : BitVec 64) (k i : Nat) : (wide (byteOf c k)).getLsbD i = (decide (i < 8) && c.getLsbD (8 * k + i)) := by
  rw [bit_wide]
  unfold byteOf
  rw [UInt8.toNat_ofNat', Nat.testBit_mod_two_pow, Nat.testBit_div_two_pow, Nat.add_comm]
  rfl
theorem Hn_byte (c : BitVec 64) (k : Nat) (hk : k < 8) : Hn (8 * k) (wide (byteOf c k) <<< (8 * k)) = wide (byteOf c k) := by
  rw [Hn_low]
  · apply BitVec.eq_of_getLsbD_eq
    intro i hi
    rw [BitVec.getLsbD_ushiftRight, BitVec.getLsbD_shiftLeft]
    have e1 : 8 * k + i - 8 * k = i := by omega
    have e2 : ¬ 8 * k + i < 8 * k := by omega
    rw [e1, bit_byteOf]
    by_cases h8 : i < 8
    · have : 8 * k + i < 64 := by omega
      simp [this]
    · simp [h8]
  · intro i hi
    rw [BitVec.getLsbD_shiftLeft]
    simp [hi]
theorem low_byte (c : BitVec 64) (k : Nat) : low (8 * (k + 1)) c = low (8 * k) c ^^^ (wide (byteOf c k) <<< (8 * k)) := by
  apply BitVec.eq_of_getLsbD_eq
  intro i hi
  rw [BitVec.getLsbD_xor, bit_low, bit_low, BitVec.getLsbD_shiftLeft, bit_byteOf]
  by_cases h1 : i < 8 * k
  · have : i < 8 * (k + 1) := by omega
    simp [h1, this]
  · have e : 8 * k + (i - 8 * k) = i := by omega
    rw [e]
    by_cases h2 : i < 8 * (k + 1)
    · have : i - 8 * k < 8 := by omega
      simp [h1, h2, hi, this]
    · have : ¬ i - 8 * k < 8 := by omega
      simp [h1, h2, this]
theorem upd_cons (c : BitVec 64) (x : UInt8) (l : List UInt8) : upd c (x :: l) = upd (Hn 8 (c ^^^ wide x)) l := rfl
theorem upd_snoc (c : BitVec 64) (x : UInt8) (l : List UInt8) : upd c (l ++ [x]) = Hn 8 (upd c l ^^^ wide x) := by
  rw [upd_append]; rfl
theorem upd_bytes (c x : BitVec 64) (k : Nat) (hk : k ≤ 8) : upd c (bytesOf x k) = Hn (8 * k) (c ^^^ low (8 * k) x) := by
  induction k with
  | zero => simp [bytesOf, upd_nil, low_zero, Hn]
  | succ k ih =>
    rw [bytesOf_succ, upd_snoc, ih (by omega), low_byte, Nat.mul_succ, Nat.add_comm, Hn_add]
    congr 1
    rw [← BitVec.xor_assoc, Hn_xor _ _ (wide _ <<< _), Hn_byte _ _ (by omega)]
theorem upd_own (c : BitVec 64) : upd c (bytesOf c 8) = 0#64 := by
  rw [upd_bytes _ _ _ (by omega), low_all _ _ (by omega)]
  simp [Hn_zero]

/-- one bit turned. -/
theorem upd_set (c : BitVec 64) (l : List UInt8) (k : Nat) (h : k < l.length) (y : UInt8) :
    upd c (l.set k y) ^^^ upd c l = Hn (8 * (l.length - k)) (wide y ^^^ wide l[k]) := by
  induction l generalizing c k with
  | nil => simp at h
  | cons x l ih =>
    cases k with
    | zero =>
      rw [List.set_cons_zero, upd_cons, upd_cons, upd_lin, ← Hn_xor, ← Hn_add]
      simp only [List.length_cons, Nat.sub_zero, List.getElem_cons_zero]
      rw [Nat.mul_succ]
      congr 1
      rw [show c ^^^ wide y ^^^ (c ^^^ wide x) = c ^^^ c ^^^ (wide y ^^^ wide x) by ac_rfl]
      simp
    | succ k =>
      rw [List.set_cons_succ, upd_cons, upd_cons]
      simp only [List.length_cons, List.getElem_cons_succ]
      rw [ih _ k (by simpa using h)]
      congr 2
      omega
theorem wide_xor (a b : UInt8) : wide (a ^^^ b) = wide a ^^^ wide b := by
  apply BitVec.eq_of_getLsbD_eq
  intro i hi
  rw [BitVec.getLsbD_xor, bit_wide, bit_wide, bit_wide, UInt8.toNat_xor, Nat.testBit_xor]
theorem wide_pow (r : Nat) (h : r < 8) : wide (UInt8.ofNat (2 ^ r)) = 1#64 <<< r := by
  revert r; decide
/-- the bit 'place' of a text, turned, and the same bit of a number. -/
theorem turn_bit (c : BitVec 64) (l : List UInt8) (at_ i : Nat) (hi : i < 64) (h : at_ + i < 8 * l.length) (hk : (at_ + i) / 8 < l.length) :
    upd c (l.set ((at_ + i) / 8) (l[(at_ + i) / 8] ^^^ UInt8.ofNat (2 ^ ((at_ + i) % 8)))) ^^^ upd c l = Hn (8 * l.length - at_) (1#64 <<< i) := by
  rw [upd_set _ _ _ hk, wide_xor, wide_pow _ (by omega)]
  rw [show wide l[(at_ + i) / 8] ^^^ 1#64 <<< ((at_ + i) % 8) ^^^ wide l[(at_ + i) / 8] = wide l[(at_ + i) / 8] ^^^ wide l[(at_ + i) / 8] ^^^ 1#64 <<< ((at_ + i) % 8) by ac_rfl]
  simp only [BitVec.xor_self, BitVec.zero_xor]
  have e1 : 8 * (l.length - (at_ + i) / 8) = (8 * l.length - (at_ + i)) + (at_ + i) % 8 := by omega
  have e2 : 8 * l.length - at_ = (8 * l.length - (at_ + i)) + i := by omega
  rw [e1, e2, Hn_add, Hn_add, Hn_pow _ _ (Nat.le_refl _) (by omega), Hn_pow _ _ (Nat.le_refl _) hi]
  simp
theorem burst_step (s l : List UInt8) (ch : BitVec 64) (at_ i : Nat) (hl : l.length = s.length) (hi : i < 64) (h : at_ + i < 8 * s.length) (hk : (at_ + i) / 8 < l.length)
    (hr : upd 0#64 l ^^^ upd 0#64 s = Hn (8 * s.length - at_) (low i ch)) (hb : ch.getLsbD i = true) :
    upd 0#64 (l.set ((at_ + i) / 8) (l[(at_ + i) / 8] ^^^ UInt8.ofNat (2 ^ ((at_ + i) % 8)))) ^^^ upd 0#64 s = Hn (8 * s.length - at_) (low (i + 1) ch) := by
  have t := turn_bit 0#64 l at_ i hi (by omega) hk
  rw [Hn_low_succ _ _ _ hi, if_pos hb, ← hr, ← hl, ← t]
  generalize upd 0#64 (l.set _ _) = x
  rw [show upd 0#64 l ^^^ upd 0#64 s ^^^ (x ^^^ upd 0#64 l) = upd 0#64 l ^^^ upd 0#64 l ^^^ (x ^^^ upd 0#64 s) by ac_rfl]
  simp
theorem low_ne (i : Nat) (ch : BitVec 64) (hb : ch.getLsbD i = true) : low (i + 1) ch ≠ 0#64 := by
  intro h
  have := congrArg (fun x => x.getLsbD i) h
  simp only [bit_low, hb] at this
  simp at this
theorem low_same (i : Nat) (ch : BitVec 64) (hi : i < 64) (hb : ch.getLsbD i = false) : low (i + 1) ch = low i ch := by
  rw [low_succ _ _ hi, hb]; simp
theorem burst_end (a b c : BitVec 64) (N : Nat) (h : a ^^^ b = Hn N c) (hc : c ≠ 0#64) : a ≠ b := by
  intro e
  subst e
  rw [BitVec.xor_self] at h
  exact hc (Hn_eq_zero _ _ h.symm)

/-! the numbers of the walk -/
def uv (v : BitVec 64) : Int := (v.toNat : Int)
theorem uv_lo (v : BitVec 64) : 0 ≤ uv v := by unfold uv; omega
theorem uv_hi (v : BitVec 64) : uv v < 18446744073709551616 := by unfold uv; have := v.isLt; omega
theorem uv_of (n : Int) (h0 : 0 ≤ n) (h1 : n < 18446744073709551616) : ∃ v, n = uv v := by
  refine ⟨BitVec.ofNat 64 n.toNat, ?_⟩
  unfold uv
  rw [BitVec.toNat_ofNat, Nat.mod_eq_of_lt (by omega)]
  omega
theorem uv_inj {a b : BitVec 64} (h : uv a = uv b) : a = b := by
  unfold uv at h
  exact BitVec.eq_of_toNat_eq (by omega)
theorem uv_xor (a b : BitVec 64) : bits .xor .u64 (uv a) (uv b) = uv (a ^^^ b) := by
  unfold uv
  rw [bits_xor_u64_nat _ _ (by have := a.isLt; omega) (by have := b.isLt; omega), BitVec.toNat_xor]
theorem uv_and (a b : BitVec 64) : bits .and .u64 (uv a) (uv b) = uv (a &&& b) := by
  unfold uv
  rw [bits_and_u64_nat _ _ (by have := a.isLt; omega) (by have := b.isLt; omega), BitVec.toNat_and]
theorem uv_or (a b : BitVec 64) : bits .or .u64 (uv a) (uv b) = uv (a ||| b) := by
  unfold uv
  rw [bits_or_u64_nat _ _ (by have := a.isLt; omega) (by have := b.isLt; omega), BitVec.toNat_or]
theorem uv_shr (a : BitVec 64) (k : Nat) : uv a / 2 ^ k = uv (a >>> k) := by
  unfold uv
  rw [BitVec.toNat_ushiftRight, Nat.shiftRight_eq_div_pow]
  simp
theorem uv_shl (a : BitVec 64) (k : Nat) : IntKind.u64.wrap (uv a * 2 ^ k) = uv (a <<< k) := by
  unfold uv
  rw [IntKind.wrap_u64, BitVec.toNat_shiftLeft, Nat.shiftLeft_eq]
  simp
theorem uv_half (a : BitVec 64) : uv a / (2 : Int) = uv (a >>> (1 : Nat)) := by
  have := uv_shr a 1
  simpa using this
theorem uv_one : (1 : Int) = uv 1#64 := rfl
theorem uv_J : (10785157014839085493 : Int) = uv J := rfl
theorem bit0_and (a : BitVec 64) : (bits .and .u64 (uv a) 1 == 1) = a.getLsbD 0 := by
  rw [uv_one, uv_and, Bool.eq_iff_iff]
  simp only [beq_iff_eq]
  rw [BitVec.getLsbD]
  unfold uv
  rw [BitVec.toNat_and]
  simp only [Nat.testBit_zero, BitVec.toNat_ofNat]
  rw [show 1 % 2 ^ 64 = 1 from rfl, Nat.and_one_is_mod]
  simp
  omega
theorem bit0_mod (a : BitVec 64) : (uv a % 2 == 1) = a.getLsbD 0 := by
  rw [Bool.eq_iff_iff]
  simp only [beq_iff_eq]
  rw [BitVec.getLsbD]
  unfold uv
  simp
  omega
theorem uv_H (a : BitVec 64) : uv (H a) = if a.getLsbD 0 then bits .xor .u64 (uv a / 2) 10785157014839085493 else uv a / 2 := by
  unfold H
  cases a.getLsbD 0
  · rw [uv_half]; simp
  · simp only [if_true]; rw [uv_half, uv_J, uv_xor]

def cnt : Nat → BitVec 64 → Nat
  | 0, _ => 0
  | n + 1, a => if a = 0#64 then 0 else 1 + cnt n (a <<< 1)
theorem cnt_ext (n : Nat) (a : BitVec 64) (h : a <<< n = 0#64) : cnt (n + 1) a = cnt n a := by
  induction n generalizing a with
  | zero =>
    have : a = 0#64 := by simpa using h
    subst this; rfl
  | succ n ih =>
    have h' : (a <<< 1) <<< n = 0#64 := by rw [← BitVec.shiftLeft_add, Nat.add_comm]; exact h
    have e1 : cnt (n + 1 + 1) a = if a = 0#64 then 0 else 1 + cnt (n + 1) (a <<< 1) := rfl
    have e2 : cnt (n + 1) a = if a = 0#64 then 0 else 1 + cnt n (a <<< 1) := rfl
    rw [e1, e2, ih _ h']
theorem cnt_lt (a : BitVec 64) (h : a ≠ 0#64) : cnt 64 (a <<< 1) < cnt 64 a := by
  have e2 : cnt 64 a = if a = 0#64 then 0 else 1 + cnt 63 (a <<< 1) := rfl
  have e : cnt 64 (a <<< 1) = cnt 63 (a <<< 1) := by
    apply cnt_ext
    rw [← BitVec.shiftLeft_add]
    exact BitVec.shiftLeft_eq_zero (by omega)
  rw [e2, if_neg h, e]
  omega
def msr (n : Int) : Nat := cnt 64 (BitVec.ofInt 64 n)
theorem ofInt_uv (v : BitVec 64) : BitVec.ofInt 64 (uv v) = v := by
  unfold uv; simp
theorem msr_lt (a : BitVec 64) (h : a ≠ 0#64) : msr (uv (a <<< 1)) < msr (uv a) := by
  unfold msr; rw [ofInt_uv, ofInt_uv]; exact cnt_lt a h
theorem uv_zero : uv 0#64 = 0 := rfl
theorem uv_ne (a : BitVec 64) : (uv a != 0) = (a != 0#64) := by
  rw [Bool.eq_iff_iff]
  simp only [bne_iff_ne, ne_eq]
  constructor
  · intro h e; exact h (by rw [e]; rfl)
  · intro h e; exact h (uv_inj (by rw [e]; rfl))
theorem uv_top : (9223372036854775808 : Int) = uv one := rfl
theorem top_and (a : BitVec 64) : (bits .and .u64 (uv a) 9223372036854775808 != 0) = a.getLsbD 63 := by
  rw [uv_top, uv_and, uv_ne]
  have e : ∀ i, (a &&& one).getLsbD i = (a.getLsbD i && decide (i = 63)) := by
    intro i; rw [BitVec.getLsbD_and]; unfold one; rw [bit_pow _ _ (by omega)]
  cases h : a.getLsbD 63
  · have : a &&& one = 0#64 := by
      apply BitVec.eq_of_getLsbD_eq
      intro i hi
      rw [e]
      by_cases h3 : i = 63
      · subst h3; rw [h]; simp
      · simp [h3]
    rw [this]; rfl
  · rw [bne_iff_ne]
    intro h0
    have := e 63
    rw [h0, h] at this
    simp at this
theorem uv_shl1 (a : BitVec 64) : IntKind.u64.wrap (uv a * 2) = uv (a <<< (1 : Nat)) := by
  have := uv_shl a 1
  simpa using this

theorem uv_tdiv (v : BitVec 64) (k : Int) (hk : 0 < k) : IntKind.u64.wrap ((uv v).tdiv k) = uv v / k := by
  rw [Int.tdiv_eq_ediv_of_nonneg (uv_lo v), IntKind.wrap_u64]
  apply Int.emod_eq_of_lt
  · exact Int.ediv_nonneg (uv_lo v) (by omega)
  · have := uv_hi v
    have h2 : uv v / k ≤ uv v := Int.ediv_le_self _ (uv_lo v)
    omega

theorem uv_wide (b : UInt8) : uv (wide b) = (b.toNat : Int) := by
  unfold uv wide
  rw [BitVec.toNat_ofNat, Nat.mod_eq_of_lt (by have := b.toNat_lt; omega)]
theorem take_snoc (s : ByteArray) (k : Nat) (h : k < s.size) : s.data.toList.take (k + 1) = s.data.toList.take k ++ [s[k]] := by
  rw [List.take_succ_eq_append_getElem (by simpa using h)]; rfl
theorem upd_take (c : BitVec 64) (s : ByteArray) (k : Nat) (h : k < s.size) :
    upd c (s.data.toList.take (k + 1)) = Hn 8 (upd c (s.data.toList.take k) ^^^ wide s[k]) := by
  rw [take_snoc s k h, upd_snoc]
theorem take_all (s : ByteArray) (k : Nat) (h : s.size ≤ k) : s.data.toList.take k = s.data.toList := by
  apply List.take_of_length_le
  simpa using h

theorem wrap_byte (b : UInt8) : IntKind.u64.wrap (b.toNat : Int) = uv (wide b) := by
  rw [uv_wide, IntKind.wrap_u64]
  have := b.toNat_lt
  omega
end Go.Proofs.Ytapmgknaimakoaa.CrcM
