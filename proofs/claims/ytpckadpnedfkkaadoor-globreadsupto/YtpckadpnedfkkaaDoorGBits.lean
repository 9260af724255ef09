import Derived.Test.YtpckadpnedfkkaaDoorBase
import Derived.Test.YtpckadpnedfkkaaDoorGParse
namespace Go.Proofs.YtpckadpnedfkkaaDoor
open Go.RowKit Gb
set_option linter.unusedVariables false
def uv (v : BitVec 64) : Int := (v.toNat : Int)
theorem uv_and (a b : BitVec 64) : bits .and .u64 (uv a) (uv b) = uv (a &&& b) := by
  unfold uv
  rw [bits_and_u64_nat _ _ (by have := a.isLt; omega) (by have := b.isLt; omega), BitVec.toNat_and]
theorem uv_or (a b : BitVec 64) : bits .or .u64 (uv a) (uv b) = uv (a ||| b) := by
  unfold uv
  rw [bits_or_u64_nat _ _ (by have := a.isLt; omega) (by have := b.isLt; omega), BitVec.toNat_or]
theorem uv_xor (a b : BitVec 64) : bits .xor .u64 (uv a) (uv b) = uv (a ^^^ b) := by
  unfold uv
  rw [bits_xor_u64_nat _ _ (by have := a.isLt; omega) (by have := b.isLt; omega), BitVec.toNat_xor]
theorem uv_not (a : BitVec 64) : bits .xor .u64 IntKind.u64.max (uv a) = uv (~~~ a) := by
  have e : IntKind.u64.max = uv (BitVec.allOnes 64) := rfl
  rw [e, uv_xor, BitVec.allOnes_xor]
theorem uv_shr (a : BitVec 64) (k : Nat) : uv a / 2 ^ k = uv (a >>> k) := by
  unfold uv
  rw [BitVec.toNat_ushiftRight, Nat.shiftRight_eq_div_pow]
  simp
theorem uv_pow (k : Nat) : IntKind.u64.wrap (2 ^ k) = uv (1#64 <<< k) := by
  unfold uv
  rw [IntKind.wrap_u64, BitVec.toNat_shiftLeft, Nat.shiftLeft_eq]
  simp
theorem uv_one : (1 : Int) = uv 1#64 := rfl
theorem uv_zero : (0 : Int) = uv 0#64 := rfl
theorem uv_inj {a b : BitVec 64} (h : uv a = uv b) : a = b := by
  unfold uv at h
  exact BitVec.eq_of_toNat_eq (by omega)
theorem bit_and (a : BitVec 64) (k : Nat) : (bits .and .u64 (uv a / 2 ^ k) 1 == 1) = a.getLsbD k := by
  rw [uv_shr, uv_one, uv_and, Bool.eq_iff_iff]
  have e : ∀ x : BitVec 64, (uv x == uv 1#64) = true ↔ x = 1#64 := fun x => by
    rw [beq_iff_eq]; exact ⟨uv_inj, fun h => by rw [h]⟩
  rw [e]
  constructor
  · intro h
    have := congrArg (fun x => x.getLsbD 0) h
    simpa using this
  · intro h
    apply BitVec.eq_of_getLsbD_eq
    intro i hi
    rw [BitVec.getLsbD_and, BitVec.getLsbD_ushiftRight]
    by_cases h0 : i = 0
    · subst h0; simpa using h
    · simp [h0]
def wdN (g : Nat → Bool) : Nat → BitVec 64
  | 0 => 0#64
  | n + 1 => wdN g n ||| (if g n then 1#64 <<< n else 0#64)
theorem one_bit (n i : Nat) (hi : i < 64) : (1#64 <<< n).getLsbD i = decide (i = n) := by
  rw [BitVec.getLsbD_shiftLeft, BitVec.getLsbD_one]
  by_cases h : i = n
  · subst h; simp [hi]
  · by_cases h2 : i < n
    · simp [h2, h]
    · have : ¬ (i - n = 0) := by omega
      simp [h, this]
theorem wdN_bit (g : Nat → Bool) (n i : Nat) (hi : i < 64) : (wdN g n).getLsbD i = (decide (i < n) && g i) := by
  induction n with
  | zero => simp [wdN]
  | succ n ih =>
    simp only [wdN]
    rw [BitVec.getLsbD_or, ih]
    by_cases hg : g n = true
    · rw [if_pos hg, one_bit n i hi]
      by_cases h : i = n
      · subst h; simp [hg]
      · by_cases h2 : i < n
        · simp [h, h2, Nat.lt_succ_of_lt h2]
        · have : ¬ i < n + 1 := by omega
          simp [h, h2, this]
    · rw [if_neg hg]
      by_cases h : i = n
      · subst h; simp at hg; simp [hg]
      · by_cases h2 : i < n
        · simp [h2, Nat.lt_succ_of_lt h2]
        · have : ¬ i < n + 1 := by omega
          simp [h2, this]
/-- the words of a set of bytes. -/
def wd (f : UInt8 → Bool) (q : Nat) : BitVec 64 := wdN (fun i => f (UInt8.ofNat (64 * q + i))) 64
theorem wd_bit (f : UInt8 → Bool) (q i : Nat) (hi : i < 64) : (wd f q).getLsbD i = f (UInt8.ofNat (64 * q + i)) := by
  unfold wd; rw [wdN_bit _ _ _ hi]; simp [hi]
theorem wd_ext {f : UInt8 → Bool} {q : Nat} {v : BitVec 64} (h : ∀ i, i < 64 → v.getLsbD i = f (UInt8.ofNat (64 * q + i))) : v = wd f q := by
  apply BitVec.eq_of_getLsbD_eq
  intro i hi
  rw [h i hi, wd_bit _ _ _ hi]
theorem wd_none (q : Nat) : wd (fun _ => false) q = 0#64 := (wd_ext (fun i hi => by simp)).symm
theorem wd_not (f : UInt8 → Bool) (q : Nat) : ~~~ (wd f q) = wd (notF f) q := wd_ext (fun i hi => by
  rw [BitVec.getLsbD_not, wd_bit _ _ _ hi]; simp [hi, notF])
theorem byte_eq (c : UInt8) (q i : Nat) (hq : q < 4) (hi : i < 64) : (UInt8.ofNat (64 * q + i) == c) = decide (i = c.toNat % 64 ∧ q = c.toNat / 64) := by
  rw [Bool.eq_iff_iff, beq_iff_eq, decide_eq_true_iff]
  constructor
  · intro h
    have := congrArg UInt8.toNat h
    rw [UInt8.toNat_ofNat', Nat.mod_eq_of_lt (by omega)] at this
    omega
  · rintro ⟨h1, h2⟩
    apply UInt8.toNat_inj.1
    rw [UInt8.toNat_ofNat', Nat.mod_eq_of_lt (by omega)]
    omega
theorem wd_add (f : UInt8 → Bool) (c : UInt8) (q : Nat) (hq : q < 4) : wd (orF f (fun b => b == c)) q = if q = c.toNat / 64 then wd f q ||| 1#64 <<< (c.toNat % 64) else wd f q := by
  symm
  apply wd_ext
  intro i hi
  have hb := byte_eq c q i hq hi
  show _ = (f (UInt8.ofNat (64 * q + i)) || (UInt8.ofNat (64 * q + i) == c))
  rw [hb]
  split
  · rename_i h
    rw [BitVec.getLsbD_or, wd_bit _ _ _ hi, one_bit _ _ hi]; simp [h]
  · rename_i h
    rw [wd_bit _ _ _ hi]; simp [h]
theorem wd_has (f : UInt8 → Bool) (c : UInt8) : (wd f (c.toNat / 64)).getLsbD (c.toNat % 64) = f c := by
  rw [wd_bit _ _ _ (by omega)]
  congr 1
  apply UInt8.toNat_inj.1
  have := c.toNat_lt
  rw [UInt8.toNat_ofNat', Nat.mod_eq_of_lt (by omega)]
  omega
def wv (f : UInt8 → Bool) (q : Nat) : Value := .int .u64 (uv (wd f q))
def ws (f : UInt8 → Bool) : Array Value := #[wv f 0, wv f 1, wv f 2, wv f 3]
theorem ws_at (f : UInt8 → Bool) (tl : Array Value) (q : Nat) (h : q < 4) : (ws f ++ tl)[q]? = some (wv f q) := by
  rw [Array.getElem?_append_left (by show q < 4; exact h)]
  rcases (by omega : q = 0 ∨ q = 1 ∨ q = 2 ∨ q = 3) with h | h | h | h <;> subst h <;> rfl
theorem ws_set (f : UInt8 → Bool) (tl : Array Value) (c : UInt8) : (ws f ++ tl).setIfInBounds (c.toNat / 64) (.int .u64 (uv (wd f (c.toNat / 64) ||| 1#64 <<< (c.toNat % 64)))) = ws (orF f (fun b => b == c)) ++ tl := by
  have hc := c.toNat_lt
  apply Array.ext_getElem?
  intro i
  rw [Array.getElem?_setIfInBounds]
  by_cases hi : i < 4
  · rw [ws_at _ _ _ hi, ws_at _ _ _ hi]
    unfold wv
    rw [wd_add f c i hi]
    by_cases h : c.toNat / 64 = i
    · rw [if_pos h, if_pos (by rw [Array.size_append]; show c.toNat / 64 < 4 + tl.size; omega), if_pos h.symm, h]
    · rw [if_neg h, if_neg (fun e => h e.symm)]
  · rw [if_neg (by omega)]
    rw [Array.getElem?_append_right (by show 4 ≤ i; omega), Array.getElem?_append_right (by show 4 ≤ i; omega)]
    rfl
/-- one block alone is another. -/
structure Only (w w' : World) (g : Nat) : Prop where
  os : w'.os = w.os
  tape : w'.tape = w.tape
  output : w'.output = w.output
  size : w'.heap.size = w.heap.size
  other : ∀ k, k ≠ g → w'.heap[k]? = w.heap[k]?
theorem Only.refl (w : World) (g : Nat) : Only w w g := ⟨rfl, rfl, rfl, rfl, fun _ _ => rfl⟩
theorem Only.trans {w w1 w2 : World} {g : Nat} (h : Only w w1 g) (h' : Only w1 w2 g) : Only w w2 g :=
  ⟨h'.os.trans h.os, h'.tape.trans h.tape, h'.output.trans h.output, h'.size.trans h.size, fun k hk => (h'.other k hk).trans (h.other k hk)⟩
theorem Only.below {w w' : World} {g B : Nat} (h : Only w w' g) (hg : B ≤ g) : Below B w w' :=
  ⟨h.os, h.tape, h.output, by rw [h.size]; exact Nat.le_refl _, fun k hk => h.other k (by omega)⟩
end Go.Proofs.YtpckadpnedfkkaaDoor
