import Derived.Test.YtdemodhjlbkbeabRA
import Derived.Test.YtdemodhjlbkbeabLenS
import Derived.Test.YtdemodhjlbkbeabRF
namespace Go.Proofs.Ytdemodhjlbkbeab
open Go.RowKit
set_option linter.unusedVariables false
def uv (v : BitVec 64) : Int := (v.toNat : Int)
theorem uv_ge (v : BitVec 64) : 0 ≤ uv v := by unfold uv; omega
theorem uv_lt (v : BitVec 64) : uv v < 18446744073709551616 := by unfold uv; have := v.isLt; omega
theorem uv_of (v : BitVec 64) : BitVec.ofInt 64 (uv v) = v := by unfold uv; simp
theorem wrapU (x : Int) : IntKind.u64.wrap x = x % 18446744073709551616 := by
  unfold IntKind.wrap; simp [IntKind.signed, IntKind.bits]
theorem wrap_uv (v : BitVec 64) : IntKind.u64.wrap (uv v) = uv v := by rw [wrapU]; have := uv_ge v; have := uv_lt v; omega
theorem uv_and (a b : BitVec 64) : bits .and .u64 (uv a) (uv b) = uv (a &&& b) := by
  show IntKind.u64.wrap ((BitVec.ofInt 64 (uv a) &&& BitVec.ofInt 64 (uv b)).toNat : Int) = _
  rw [uv_of, uv_of]; exact wrap_uv _
theorem uv_or (a b : BitVec 64) : bits .or .u64 (uv a) (uv b) = uv (a ||| b) := by
  show IntKind.u64.wrap ((BitVec.ofInt 64 (uv a) ||| BitVec.ofInt 64 (uv b)).toNat : Int) = _
  rw [uv_of, uv_of]; exact wrap_uv _
theorem uv_shr (a : BitVec 64) (k : Nat) (z : Int) (hz : z = ((2 ^ k : Nat) : Int)) : uv a / z = uv (a >>> k) := by
  subst hz
  unfold uv; rw [BitVec.toNat_ushiftRight, Nat.shiftRight_eq_div_pow]; norm_cast
theorem uv_shl (a : BitVec 64) (k : Nat) (z : Int) (hz : z = ((2 ^ k : Nat) : Int)) : IntKind.u64.wrap (uv a * z) = uv (a <<< k) := by
  subst hz
  rw [wrapU]; unfold uv; rw [BitVec.toNat_shiftLeft, Nat.shiftLeft_eq, show (18446744073709551616 : Int) = ((2 ^ 64 : Nat) : Int) from rfl, ← Int.natCast_mul, ← Int.natCast_emod]
def stg (k : Nat) (m v : BitVec 64) : BitVec 64 := ((v >>> k) &&& m) ||| ((v &&& m) <<< k)
theorem uv_stg (k : Nat) (m v : BitVec 64) (z M : Int) (hz : z = ((2 ^ k : Nat) : Int)) (hM : M = uv m) : bits .or .u64 (bits .and .u64 (uv v / z) M) (IntKind.u64.wrap (bits .and .u64 (uv v) M * z)) = uv (stg k m v) := by
  subst hM
  rw [uv_shr v k z hz, uv_and, uv_and, uv_shl _ k z hz, uv_or]; rfl
def sg (k i : Nat) : Nat := if i / k % 2 = 0 then i + k else i - k
theorem stg_get (k : Nat) (hk : 0 < k) (m v : BitVec 64) (hm : ∀ i, i < 64 → m.getLsbD i = (i / k % 2 == 0)) (hkk : 64 % (2 * k) = 0) (i : Nat) (hi : i < 64) : (stg k m v).getLsbD i = v.getLsbD (sg k i) := by
  unfold stg sg
  rw [BitVec.getLsbD_or, BitVec.getLsbD_and, BitVec.getLsbD_ushiftRight, BitVec.getLsbD_shiftLeft, BitVec.getLsbD_and, hm i hi]
  by_cases he : i / k % 2 = 0
  · rw [if_pos he]
    have h1 : (i / k % 2 == 0) = true := by simpa using he
    rw [h1, Bool.and_true]
    have h2 : (decide (i < 64) && !decide (i < k) && (v.getLsbD (i - k) && m.getLsbD (i - k))) = false := by
      by_cases hlt : i < k
      · simp [hlt]
      · have h3 : (i - k) / k = i / k - 1 := by
          have q : i / k = (i - k) / k + 1 := by rw [← Nat.add_div_right (i - k) hk, Nat.sub_add_cancel (by omega)]
          rw [q, Nat.add_sub_cancel]
        have h4 : 1 ≤ i / k := (Nat.one_le_div_iff hk).2 (by omega)
        have h5 : m.getLsbD (i - k) = false := by
          rw [hm _ (by omega), h3]
          have : ¬ (i / k - 1) % 2 = 0 := by omega
          simpa using this
        simp [h5]
    rw [h2, Bool.or_false, Nat.add_comm]
  · rw [if_neg he]
    have h1 : (i / k % 2 == 0) = false := by simpa using he
    rw [h1, Bool.and_false, Bool.false_or]
    have h4 : 1 ≤ i / k := by
      rcases Nat.eq_zero_or_pos (i / k) with h | h
      · rw [h] at he; exact absurd rfl he
      · exact h
    have h6 : k ≤ i := (Nat.one_le_div_iff hk).1 h4
    have h3 : (i - k) / k = i / k - 1 := by
      have q : i / k = (i - k) / k + 1 := by rw [← Nat.add_div_right (i - k) hk, Nat.sub_add_cancel (by omega)]
      rw [q, Nat.add_sub_cancel]
    have h5 : m.getLsbD (i - k) = true := by
      rw [hm _ (by omega), h3]
      have : (i / k - 1) % 2 = 0 := by omega
      simpa using this
    simp [h5, hi]
    omega
def m0 : BitVec 64 := 0x5555555555555555#64
def m1 : BitVec 64 := 0x3333333333333333#64
def m2 : BitVec 64 := 0x0f0f0f0f0f0f0f0f#64
def m3 : BitVec 64 := 0x00ff00ff00ff00ff#64
def m4 : BitVec 64 := 0x0000ffff0000ffff#64
def m5 : BitVec 64 := 0x00000000ffffffff#64
theorem sg_lt : ∀ i : Fin 64, sg 1 i < 64 ∧ sg 2 i < 64 ∧ sg 4 i < 64 ∧ sg 8 i < 64 ∧ sg 16 i < 64 ∧ sg 32 i < 64 := by decide
theorem sg_all : ∀ i : Fin 64, sg 1 (sg 2 (sg 4 (sg 8 (sg 16 (sg 32 i))))) = 63 - i := by decide
theorem mk0 : ∀ i : Fin 64, m0.getLsbD i = ((i : Nat) / 1 % 2 == 0) := by decide
theorem mk1 : ∀ i : Fin 64, m1.getLsbD i = ((i : Nat) / 2 % 2 == 0) := by decide
theorem mk2 : ∀ i : Fin 64, m2.getLsbD i = ((i : Nat) / 4 % 2 == 0) := by decide
theorem mk3 : ∀ i : Fin 64, m3.getLsbD i = ((i : Nat) / 8 % 2 == 0) := by decide
theorem mk4 : ∀ i : Fin 64, m4.getLsbD i = ((i : Nat) / 16 % 2 == 0) := by decide
theorem mk5 : ∀ i : Fin 64, m5.getLsbD i = ((i : Nat) / 32 % 2 == 0) := by decide
theorem rev_stg (v : BitVec 64) : stg 32 m5 (stg 16 m4 (stg 8 m3 (stg 4 m2 (stg 2 m1 (stg 1 m0 v))))) = v.reverse := by
  apply BitVec.eq_of_getLsbD_eq
  intro i hi
  have f : ∀ j, j < 64 → sg 1 j < 64 ∧ sg 2 j < 64 ∧ sg 4 j < 64 ∧ sg 8 j < 64 ∧ sg 16 j < 64 ∧ sg 32 j < 64 := fun j hj => sg_lt ⟨j, hj⟩
  have a5 := (f i hi).2.2.2.2.2
  have a4 := (f _ a5).2.2.2.2.1
  have a3 := (f _ a4).2.2.2.1
  have a2 := (f _ a3).2.2.1
  have a1 := (f _ a2).2.1
  rw [stg_get 32 (by omega) m5 _ (fun j hj => mk5 ⟨j, hj⟩) (by decide) i hi]
  rw [stg_get 16 (by omega) m4 _ (fun j hj => mk4 ⟨j, hj⟩) (by decide) _ a5]
  rw [stg_get 8 (by omega) m3 _ (fun j hj => mk3 ⟨j, hj⟩) (by decide) _ a4]
  rw [stg_get 4 (by omega) m2 _ (fun j hj => mk2 ⟨j, hj⟩) (by decide) _ a3]
  rw [stg_get 2 (by omega) m1 _ (fun j hj => mk1 ⟨j, hj⟩) (by decide) _ a2]
  rw [stg_get 1 (by omega) m0 _ (fun j hj => mk0 ⟨j, hj⟩) (by decide) _ a1]
  have this : sg 1 (sg 2 (sg 4 (sg 8 (sg 16 (sg 32 i))))) = 63 - i := sg_all ⟨i, hi⟩
  rw [BitVec.getLsbD_reverse, BitVec.getMsbD]
  have e : v.getLsbD (sg 1 (sg 2 (sg 4 (sg 8 (sg 16 (sg 32 i)))))) = v.getLsbD (63 - i) := by rw [this]
  rw [e]
  simp only [hi, decide_true, Bool.true_and]
theorem stg5 (v : BitVec 64) : stg 32 m5 v = (v >>> 32) ||| (v <<< 32) := by
  apply BitVec.eq_of_getLsbD_eq
  intro i hi
  rw [stg_get 32 (by omega) m5 _ (fun j hj => mk5 ⟨j, hj⟩) (by decide) i hi, BitVec.getLsbD_or, BitVec.getLsbD_ushiftRight, BitVec.getLsbD_shiftLeft]
  unfold sg
  by_cases h : i < 32
  · rw [if_pos (by omega)]
    simp [h, Nat.add_comm]
  · rw [if_neg (by omega), BitVec.getLsbD_of_ge v (32 + i) (by omega)]
    simp [h, hi]
theorem uv_last (v : BitVec 64) : bits .or .u64 (uv v / 4294967296) (IntKind.u64.wrap (uv v * 4294967296)) = uv (stg 32 m5 v) := by
  rw [uv_shr v 32 4294967296 rfl, uv_shl v 32 4294967296 rfl, uv_or, stg5]
set_option maxRecDepth 100000 in
theorem Rev_any (v : BitVec 64) (w : World) : Calls Try.prog 71 #[.int .u64 (uv v)] w fun e w' => e = .returned (.int .u64 (uv v.reverse)) ∧ w' = w := by
  have h0 := uv_stg 1 m0 v 2 6148914691236517205 rfl rfl
  have h1 := uv_stg 2 m1 (stg 1 m0 v) 4 3689348814741910323 rfl rfl
  have h2 := uv_stg 4 m2 (stg 2 m1 (stg 1 m0 v)) 16 1085102592571150095 rfl rfl
  have h3 := uv_stg 8 m3 (stg 4 m2 (stg 2 m1 (stg 1 m0 v))) 256 71777214294589695 rfl rfl
  have h4 := uv_stg 16 m4 (stg 8 m3 (stg 4 m2 (stg 2 m1 (stg 1 m0 v)))) 65536 281470681808895 rfl rfl
  have h5 := uv_last (stg 16 m4 (stg 8 m3 (stg 4 m2 (stg 2 m1 (stg 1 m0 v)))))
  have h6 := uv_ge v
  have h7 := uv_lt v
  rw [← rev_stg]
  go_enter Try.func71, Try.ntmps71
  go_wp2
  go_returns
  refine ⟨?_, rfl⟩
  rfl
end Go.Proofs.Ytdemodhjlbkbeab
namespace Go.Proofs.Ytdemodhjlbkbeab
open Go.RowKit
set_option linter.unusedVariables false
def revN (x : Nat) : Nat := (BitVec.ofNat 64 x).reverse.toNat
def Rj (j x : Nat) : Nat := revN x / 2 ^ (64 - j)
def nextC (j c : Nat) : Nat := revN ((Rj j c + 1) % 2 ^ j * 2 ^ (64 - j))
theorem revN_lt (x : Nat) : revN x < 2 ^ 64 := (BitVec.ofNat 64 x).reverse.isLt
theorem revN_bit (x i : Nat) : (revN x).testBit i = (decide (i < 64) && x.testBit (63 - i)) := by
  unfold revN
  rw [BitVec.testBit_toNat, BitVec.getLsbD_reverse, BitVec.getMsbD]
  by_cases h : i < 64
  · simp only [h, decide_true, Bool.true_and]
    rw [BitVec.getLsbD_ofNat, show 64 - 1 - i = 63 - i by omega]
    simp; omega
  · simp [h]
theorem revN_revN (x : Nat) (h : x < 2 ^ 64) : revN (revN x) = x := by
  apply Nat.eq_of_testBit_eq
  intro i
  rw [revN_bit, revN_bit]
  by_cases hi : i < 64
  · have h2 : 63 - i < 64 := by omega
    simp only [hi, h2, decide_true, Bool.true_and]
    rw [show 63 - (63 - i) = i by omega]
  · simp only [hi, decide_false, Bool.false_and]
    exact (Nat.testBit_lt_two_pow (Nat.lt_of_lt_of_le h (Nat.pow_le_pow_right (by omega) (by omega)))).symm
theorem Rj_bit (j : Nat) (hj : j ≤ 64) (x i : Nat) : (Rj j x).testBit i = (decide (i < j) && x.testBit (j - 1 - i)) := by
  unfold Rj
  rw [Nat.testBit_div_two_pow, revN_bit]
  by_cases hi : i < j
  · have h2 : i + (64 - j) < 64 := by omega
    simp only [hi, h2, decide_true, Bool.true_and]
    rw [show 63 - (i + (64 - j)) = j - 1 - i by omega]
  · have h2 : ¬ i + (64 - j) < 64 := by omega
    simp [hi, h2]
theorem Rj_lt (j : Nat) (hj : j ≤ 64) (x : Nat) : Rj j x < 2 ^ j := by
  apply Nat.lt_pow_two_of_testBit
  intro i hi
  rw [Rj_bit j hj]
  simp; omega
theorem Rj_eq (j : Nat) (hj : j ≤ 64) (x y : Nat) : Rj j x = Rj j y ↔ x % 2 ^ j = y % 2 ^ j := by
  constructor
  · intro h
    apply Nat.eq_of_testBit_eq
    intro i
    rw [Nat.testBit_mod_two_pow, Nat.testBit_mod_two_pow]
    by_cases hi : i < j
    · have q : (Rj j x).testBit (j - 1 - i) = (Rj j y).testBit (j - 1 - i) := by rw [h]
      rw [Rj_bit j hj, Rj_bit j hj] at q
      have h2 : j - 1 - i < j := by omega
      simp only [h2, decide_true, Bool.true_and] at q
      rw [show j - 1 - (j - 1 - i) = i by omega] at q
      rw [q]
    · simp [hi]
  · intro h
    apply Nat.eq_of_testBit_eq
    intro i
    rw [Rj_bit j hj, Rj_bit j hj]
    by_cases hi : i < j
    · have q : (x % 2 ^ j).testBit (j - 1 - i) = (y % 2 ^ j).testBit (j - 1 - i) := by rw [h]
      rw [Nat.testBit_mod_two_pow, Nat.testBit_mod_two_pow] at q
      have h2 : j - 1 - i < j := by omega
      simp only [h2, decide_true, Bool.true_and] at q
      rw [q]
    · simp [hi]
theorem Rj_div (a b : Nat) (hab : a ≤ b) (hb : b ≤ 64) (x : Nat) : Rj a x = Rj b x / 2 ^ (b - a) := by
  unfold Rj
  rw [Nat.div_div_eq_div_mul, ← Nat.pow_add, show 64 - b + (b - a) = 64 - a by omega]
theorem Rj_mod (j : Nat) (hj : j ≤ 64) (x : Nat) : Rj j (x % 2 ^ j) = Rj j x := (Rj_eq j hj _ _).2 (Nat.mod_mod _ _)
theorem next_lt (j : Nat) (hj : j ≤ 64) (c : Nat) : nextC j c < 2 ^ j := by
  unfold nextC
  apply Nat.lt_pow_two_of_testBit
  intro i hi
  rw [revN_bit, Nat.testBit_mul_two_pow]
  by_cases h : i < 64
  · have : ¬ (64 - j ≤ 63 - i) := by omega
    simp [this]
  · simp [h]
theorem y_lt (j : Nat) (hj : j ≤ 64) (t : Nat) : t % 2 ^ j * 2 ^ (64 - j) < 2 ^ 64 := by
  have h1 : t % 2 ^ j < 2 ^ j := Nat.mod_lt _ (Nat.two_pow_pos j)
  have h2 : 2 ^ 64 = 2 ^ j * 2 ^ (64 - j) := by rw [← Nat.pow_add, show j + (64 - j) = 64 by omega]
  rw [h2]
  exact Nat.mul_lt_mul_of_pos_right h1 (Nat.two_pow_pos _)
theorem next_R (j : Nat) (hj : j ≤ 64) (c : Nat) : Rj j (nextC j c) = (Rj j c + 1) % 2 ^ j := by
  unfold nextC
  generalize Rj j c + 1 = t
  unfold Rj
  rw [revN_revN _ (y_lt j hj _), Nat.mul_div_cancel _ (Nat.two_pow_pos _)]
theorem Rj_zero (j : Nat) (hj : j ≤ 64) : Rj j 0 = 0 := by
  apply Nat.eq_of_testBit_eq
  intro i
  rw [Rj_bit j hj]; simp
theorem Rj_nz (j : Nat) (hj : j ≤ 64) (c : Nat) (hc : c < 2 ^ j) : Rj j c = 0 ↔ c = 0 := by
  constructor
  · intro h
    rw [← Rj_zero j hj, Rj_eq j hj, Nat.zero_mod, Nat.mod_eq_of_lt hc] at h
    exact h
  · rintro rfl; exact Rj_zero j hj
theorem Rj_inj (j : Nat) (hj : j ≤ 64) {c d : Nat} (hc : c < 2 ^ j) (hd : d < 2 ^ j) (h : Rj j c = Rj j d) : c = d := by
  rw [Rj_eq j hj, Nat.mod_eq_of_lt hc, Nat.mod_eq_of_lt hd] at h; exact h
theorem low_iff (a b : Nat) (hab : a ≤ b) (hb : b ≤ 64) (c : Nat) (hc : c < 2 ^ b) : Rj b c % 2 ^ (b - a) = 0 ↔ c < 2 ^ a := by
  constructor
  · intro h
    apply Nat.lt_pow_two_of_testBit
    intro i hi
    by_cases hib : i < b
    · have q : (Rj b c % 2 ^ (b - a)).testBit (b - 1 - i) = false := by rw [h]; simp
      rw [Nat.testBit_mod_two_pow, Rj_bit b hb] at q
      have h1 : b - 1 - i < b - a := by omega
      have h2 : b - 1 - i < b := by omega
      simp only [h1, h2, decide_true, Bool.true_and] at q
      rw [show b - 1 - (b - 1 - i) = i by omega] at q
      exact q
    · exact Nat.testBit_lt_two_pow (Nat.lt_of_lt_of_le hc (Nat.pow_le_pow_right (by omega) (by omega)))
  · intro h
    apply Nat.eq_of_testBit_eq
    intro i
    rw [Nat.testBit_mod_two_pow, Rj_bit b hb, Nat.zero_testBit]
    by_cases hi : i < b - a
    · have : c.testBit (b - 1 - i) = false := Nat.testBit_lt_two_pow (Nat.lt_of_lt_of_le h (Nat.pow_le_pow_right (by omega) (by omega)))
      simp [this]
    · simp [hi]
theorem bitAux_pow : ∀ (f j : Nat), j ≤ f → Lib.bitLenAux f (2 ^ j - 1) = j
  | 0, j, h => by
    have : j = 0 := by omega
    subst this; rfl
  | f + 1, 0, h => by simp [Lib.bitLenAux]
  | f + 1, j + 1, h => by
    have h1 := Nat.two_pow_pos j
    have h2 : 2 ^ (j + 1) = 2 * 2 ^ j := by rw [Nat.pow_succ]; omega
    unfold Lib.bitLenAux
    rw [if_neg (by omega), show (2 ^ (j + 1) - 1) / 2 = 2 ^ j - 1 by omega, bitAux_pow f j (by omega)]
    omega
theorem bitLen_pow (j : Nat) (hj : j ≤ 64) : Lib.bitLen (2 ^ j - 1) = j := bitAux_pow 64 j hj
set_option maxRecDepth 100000 in
theorem LZ_any (j : Nat) (hj : 1 ≤ j) (hj2 : j ≤ 42) (w : World) : Calls Try.prog 70 #[.int .u64 ((2 ^ j - 1 : Nat) : Int)] w fun e w' => e = .returned (.int .i64 ((64 - j : Nat) : Int)) ∧ w' = w := by
  have hp : 2 ^ j ≤ 2 ^ 42 := Nat.pow_le_pow_right (by omega) hj2
  have HL := Try.bits_Len64 ((2 ^ j - 1 : Nat) : Int) w (by omega) (by omega)
  rw [Int.toNat_natCast, bitLen_pow j (by omega)] at HL
  have HLN : Hid _ := HL
  have hw : IntKind.i64.wrap (64 - (j : Int)) = ((64 - j : Nat) : Int) := by rw [IntKind.wrap_i64] <;> omega
  have hw2 : 64 - (j : Int) = ((64 - j : Nat) : Int) := by omega
  clear HL
  generalize 2 ^ j - 1 = m at *
  go_enter Try.func70, Try.ntmps70
  go_wp2_with fail
  refine (show Calls _ _ _ _ _ from HLN.out).mono ?_
  rintro e w1 ⟨rfl, rfl⟩
  go_wp2
  go_returns
  exact ⟨by first | rfl | simp [hw] | simp [hw2], rfl⟩
theorem and_u (x j : Nat) (hx : x < 2 ^ 64) (hj : j ≤ 42) : bits .and .u64 (x : Int) ((2 ^ j - 1 : Nat) : Int) = ((x % 2 ^ j : Nat) : Int) := by
  have hp : 2 ^ j ≤ 2 ^ 42 := Nat.pow_le_pow_right (by omega) hj
  have h0 := Nat.two_pow_pos j
  show IntKind.u64.wrap ((BitVec.ofInt 64 (x : Int) &&& BitVec.ofInt 64 ((2 ^ j - 1 : Nat) : Int)).toNat : Int) = _
  rw [BitVec.toNat_and, BitVec.toNat_ofInt, BitVec.toNat_ofInt]
  have e1 : ((x : Int) % ((2 ^ 64 : Nat) : Int)).toNat = x := by omega
  have e2 : (((2 ^ j - 1 : Nat) : Int) % ((2 ^ 64 : Nat) : Int)).toNat = 2 ^ j - 1 := by
    generalize 2 ^ j = m at *; omega
  rw [e1, e2, Nat.and_two_pow_sub_one_eq_mod, wrapU]
  have := Nat.mod_lt x h0
  omega
set_option maxHeartbeats 1000000 in
set_option maxRecDepth 100000 in
theorem next_any (c j : Nat) (hc : c ≤ 9223372036854775807) (hj : 1 ≤ j) (hj2 : j ≤ 42) (w : World) : Calls Try.prog 58 #[.int .i64 (c : Int), .int .i64 ((2 ^ j : Nat) : Int)] w fun e w' => e = .returned (.int .i64 (nextC j c : Nat)) ∧ w' = w := by
  have hp : 2 ^ j ≤ 2 ^ 42 := Nat.pow_le_pow_right (by omega) hj2
  have h0 := Nat.two_pow_pos j
  have hRl := Rj_lt j (by omega) c
  have hw1 : IntKind.u64.wrap (c : Int) = uv (BitVec.ofNat 64 c) := by rw [wrapU]; unfold uv; simp
  have hA : uv (BitVec.ofNat 64 c).reverse / 2 ^ (64 - j) = ((Rj j c : Nat) : Int) := by
    show ((revN c : Nat) : Int) / 2 ^ (64 - j) = _
    unfold Rj; norm_cast
  have hB : IntKind.u64.wrap (((Rj j c : Nat) : Int) + 1) = ((Rj j c + 1 : Nat) : Int) := by rw [wrapU]; omega
  have hC := and_u (Rj j c + 1) j (by omega) hj2
  have hD : IntKind.u64.wrap ((((Rj j c + 1) % 2 ^ j : Nat) : Int) * 2 ^ (64 - j)) = uv (BitVec.ofNat 64 ((Rj j c + 1) % 2 ^ j * 2 ^ (64 - j))) := by
    have := y_lt j (by omega) (Rj j c + 1)
    rw [wrapU]
    unfold uv
    rw [BitVec.toNat_ofNat, Nat.mod_eq_of_lt this]
    have e : ((((Rj j c + 1) % 2 ^ j : Nat) : Int) * 2 ^ (64 - j)) = (((Rj j c + 1) % 2 ^ j * 2 ^ (64 - j) : Nat) : Int) := by norm_cast
    rw [e]
    omega
  have hE : uv (BitVec.ofNat 64 ((Rj j c + 1) % 2 ^ j * 2 ^ (64 - j))).reverse = ((nextC j c : Nat) : Int) := rfl
  have hNl := next_lt j (by omega) c
  have hF : IntKind.i64.wrap ((nextC j c : Nat) : Int) = ((nextC j c : Nat) : Int) := by rw [IntKind.wrap_i64] <;> omega
  have HLZ : Hid _ := LZ_any j hj hj2
  have HRV : Hid _ := Rev_any
  have hw3 : ((2 ^ j : Nat) : Int) - 1 = ((2 ^ j - 1 : Nat) : Int) := by omega
  have hw4 : IntKind.i64.wrap (((2 ^ j : Nat) : Int) - 1) = ((2 ^ j - 1 : Nat) : Int) := by rw [IntKind.wrap_i64] <;> omega
  have hw5 : IntKind.u64.wrap ((2 ^ j - 1 : Nat) : Int) = ((2 ^ j - 1 : Nat) : Int) := by rw [wrapU]; omega
  generalize nextC j c = NC at *
  generalize (Rj j c + 1) % 2 ^ j * 2 ^ (64 - j) = YY at *
  generalize (Rj j c + 1) % 2 ^ j = TT at *
  obtain ⟨R1, hR1⟩ : ∃ R1, Rj j c + 1 = R1 := ⟨_, rfl⟩
  rw [hR1] at hB hC
  generalize Rj j c = RR at *
  generalize 2 ^ j - 1 = MM at *
  generalize 2 ^ j = NN at *
  obtain ⟨u, hu⟩ : ∃ u, 64 - j = u := ⟨_, rfl⟩
  have hu64 : u < 64 := by omega
  rw [hu] at hA hD HLZ
  clear hR1 hu
  go_enter Try.func58, Try.ntmps58
  go_wp2_with fail
  refine (show Calls _ _ _ _ _ from HLZ.out _).mono ?_
  rintro e w1 ⟨rfl, rfl⟩
  go_wp2_with fail
  refine (show Calls _ _ _ _ _ from HRV.out _ _).mono ?_
  rintro e w1 ⟨rfl, rfl⟩
  go_wp2_with fail
  refine (show Calls _ _ _ _ _ from HRV.out _ _).mono ?_
  rintro e w1 ⟨rfl, rfl⟩
  go_wp2
  go_returns
  exact ⟨by first | rfl | simp [hE, hF], rfl⟩
end Go.Proofs.Ytdemodhjlbkbeab
namespace Go.Proofs.Ytdemodhjlbkbeab
open Go.RowKit
set_option linter.unusedVariables false
def itN (b : Nat) : Nat → Nat → Nat
  | 0, c => c
  | t + 1, c => nextC b (itN b t c)
def bk (L : List (List Ent)) (b x : Nat) : List Ent := L[x % 2 ^ b]?.getD []
def lpart (L : List (List Ent)) (b : Nat) : Nat → Nat → List Ent
  | 0, c => []
  | t + 1, c => lpart L b t c ++ bk L b (itN b t c)
def vlen (a b c : Nat) : Nat := 2 ^ (b - a) - Rj b c % 2 ^ (b - a)
theorem itN_R (b : Nat) (hb : b ≤ 64) (c : Nat) : ∀ t, Rj b (itN b t c) = (Rj b c + t) % 2 ^ b
  | 0 => by rw [Nat.add_zero, Nat.mod_eq_of_lt (Rj_lt b hb c)]; rfl
  | t + 1 => by
    show Rj b (nextC b (itN b t c)) = _
    rw [next_R b hb, itN_R b hb c t, Nat.mod_add_mod, Nat.add_assoc]
theorem itN_lt (b : Nat) (hb : b ≤ 64) (c t : Nat) : itN b (t + 1) c < 2 ^ b := next_lt b hb _
theorem vlen_pos (a b c : Nat) : 0 < vlen a b c := by
  unfold vlen; have := Nat.mod_lt (Rj b c) (Nat.two_pow_pos (b - a)); omega
theorem pow_split (a b : Nat) (hab : a ≤ b) : 2 ^ b = 2 ^ (b - a) * 2 ^ a := by rw [← Nat.pow_add, show b - a + a = b by omega]
theorem vlen_le (a b c : Nat) (hab : a ≤ b) (hb : b ≤ 64) : Rj b c + vlen a b c ≤ 2 ^ b := by
  have h1 := Rj_lt b hb c
  have h2 := pow_split a b hab
  unfold vlen
  have hd := Nat.two_pow_pos (b - a)
  have h3 := Nat.div_add_mod (Rj b c) (2 ^ (b - a))
  have h4 := Nat.mod_lt (Rj b c) hd
  have h5 : Rj b c / 2 ^ (b - a) < 2 ^ a := by
    rw [Nat.div_lt_iff_lt_mul hd, Nat.mul_comm, ← h2]; exact h1
  have h6 : 2 ^ (b - a) * (Rj b c / 2 ^ (b - a) + 1) ≤ 2 ^ (b - a) * 2 ^ a := Nat.mul_le_mul_left _ h5
  rw [Nat.mul_add, Nat.mul_one] at h6
  omega
theorem vlen_end (a b c t : Nat) (ht : t < vlen a b c) : (Rj b c + (t + 1)) % 2 ^ (b - a) = 0 ↔ t + 1 = vlen a b c := by
  unfold vlen at *
  have hd := Nat.two_pow_pos (b - a)
  have h4 := Nat.mod_lt (Rj b c) hd
  have h3 := Nat.div_add_mod (Rj b c) (2 ^ (b - a))
  generalize 2 ^ (b - a) = d at *
  have e : (Rj b c + (t + 1)) % d = (Rj b c % d + (t + 1)) % d := by rw [Nat.mod_add_mod]
  rw [e]
  generalize Rj b c % d = m at *
  constructor
  · intro h
    rcases Nat.lt_or_ge (m + (t + 1)) d with h5 | h5
    · rw [Nat.mod_eq_of_lt h5] at h; omega
    · omega
  · intro h
    rw [show m + (t + 1) = d by omega, Nat.mod_self]
/-- the cursor behind a visit of both tables. -/
theorem cur_end (a b c : Nat) (hab : a ≤ b) (hb : b ≤ 64) : itN b (vlen a b c) c = nextC a c := by
  have hp := vlen_pos a b c
  obtain ⟨t, ht⟩ : ∃ t, vlen a b c = t + 1 := ⟨vlen a b c - 1, by omega⟩
  have h1 := (vlen_end a b c t (by omega)).2 ht.symm
  have h2 := pow_split a b hab
  have hd := Nat.two_pow_pos (b - a)
  have hlt : itN b (vlen a b c) c < 2 ^ b := by rw [ht]; exact itN_lt b hb c t
  have hR := itN_R b hb c (vlen a b c)
  have h5 : Rj b (itN b (vlen a b c) c) % 2 ^ (b - a) = 0 := by
    rw [hR, h2, Nat.mod_mul_right_mod, ht]; exact h1
  have h6 := (low_iff a b hab hb _ hlt).1 h5
  refine Rj_inj a (by omega) h6 (next_lt a (by omega) c) ?_
  rw [next_R a (by omega), Rj_div a b hab hb, hR, Rj_div a b hab hb c, h2]
  have h7 : Rj b c + vlen a b c = 2 ^ (b - a) * (Rj b c / 2 ^ (b - a) + 1) := by
    have h3 := Nat.div_add_mod (Rj b c) (2 ^ (b - a))
    have h4 := Nat.mod_lt (Rj b c) hd
    rw [Nat.mul_add, Nat.mul_one]
    unfold vlen
    omega
  rw [h7, Nat.mul_mod_mul_left, Nat.mul_div_cancel_left _ hd]
theorem and_low (a b : Nat) (hab : a ≤ b) (hb : b ≤ 42) (x : Nat) (hx : x < 2 ^ b) : bits .and .i64 (x : Int) (((2 ^ b - 2 ^ a : Nat)) : Int) = ((x &&& (2 ^ b - 2 ^ a) : Nat) : Int) := by
  have hp : 2 ^ b ≤ 2 ^ 42 := Nat.pow_le_pow_right (by omega) hb
  show IntKind.i64.wrap ((BitVec.ofInt 64 (x : Int) &&& BitVec.ofInt 64 ((2 ^ b - 2 ^ a : Nat) : Int)).toNat : Int) = _
  rw [BitVec.toNat_and, BitVec.toNat_ofInt, BitVec.toNat_ofInt]
  have e1 : ((x : Int) % ((2 ^ 64 : Nat) : Int)).toNat = x := by omega
  have e2 : (((2 ^ b - 2 ^ a : Nat) : Int) % ((2 ^ 64 : Nat) : Int)).toNat = 2 ^ b - 2 ^ a := by
    have := Nat.two_pow_pos a
    generalize 2 ^ b = m at *
    generalize 2 ^ a = k at *
    omega
  rw [e1, e2]
  have hle : x &&& (2 ^ b - 2 ^ a) ≤ x := Nat.and_le_left
  rw [IntKind.wrap_i64] <;> omega
theorem and_zero (a b : Nat) (hab : a ≤ b) (x : Nat) (hx : x < 2 ^ b) : x &&& (2 ^ b - 2 ^ a) = 0 ↔ x < 2 ^ a := by
  have e : 2 ^ b - 2 ^ a = (2 ^ (b - a) - 1) * 2 ^ a := by rw [Nat.sub_mul, Nat.one_mul, ← pow_split a b hab]
  have hbit : ∀ i, (2 ^ b - 2 ^ a).testBit i = (decide (a ≤ i) && decide (i < b)) := fun i => by
    rw [e, Nat.testBit_mul_two_pow, Nat.testBit_two_pow_sub_one]
    by_cases h1 : a ≤ i
    · simp [h1]; omega
    · simp [h1]
  constructor
  · intro h
    apply Nat.lt_pow_two_of_testBit
    intro i hi
    have q : (x &&& (2 ^ b - 2 ^ a)).testBit i = false := by rw [h]; simp
    rw [Nat.testBit_and, hbit] at q
    by_cases hib : i < b
    · simpa [hi, hib] using q
    · exact Nat.testBit_lt_two_pow (Nat.lt_of_lt_of_le hx (Nat.pow_le_pow_right (by omega) (by omega)))
  · intro h
    apply Nat.eq_of_testBit_eq
    intro i
    rw [Nat.testBit_and, hbit, Nat.zero_testBit]
    by_cases hi : a ≤ i
    · have : x.testBit i = false := Nat.testBit_lt_two_pow (Nat.lt_of_lt_of_le h (Nat.pow_le_pow_right (by omega) hi))
      simp [this]
    · simp [hi]
theorem and_mod (b : Nat) (hb : b ≤ 42) (x : Nat) (hx : x ≤ 9223372036854775807) (n : Nat) (hn : n = 2 ^ b) : bits .and .i64 (x : Int) ((n : Int) - 1) = ((x % n : Nat) : Int) := by
  subst hn
  have hp : 2 ^ b ≤ 2 ^ 42 := Nat.pow_le_pow_right (by omega) hb
  have h0 := Nat.two_pow_pos b
  show IntKind.i64.wrap ((BitVec.ofInt 64 (x : Int) &&& BitVec.ofInt 64 (((2 ^ b : Nat) : Int) - 1)).toNat : Int) = _
  rw [BitVec.toNat_and, BitVec.toNat_ofInt, BitVec.toNat_ofInt]
  have e1 : ((x : Int) % ((2 ^ 64 : Nat) : Int)).toNat = x := by omega
  have e2 : ((((2 ^ b : Nat) : Int) - 1) % ((2 ^ 64 : Nat) : Int)).toNat = 2 ^ b - 1 := by
    generalize 2 ^ b = m at *; omega
  rw [e1, e2, Nat.and_two_pow_sub_one_eq_mod]
  have := Nat.mod_lt x h0
  rw [IntKind.wrap_i64] <;> omega
theorem filter_split {α : Type} (l : List α) (p q r : α → Bool) (h : ∀ a, p a = (q a || r a)) (hd : ∀ a, q a = true → r a = false) : (l.filter p).Perm (l.filter q ++ l.filter r) := by
  induction l with
  | nil => exact List.Perm.refl _
  | cons a l ih =>
    rw [List.filter_cons, List.filter_cons, List.filter_cons, h a]
    rcases hq : q a with _ | _
    · rcases hr : r a with _ | _
      · simpa using ih
      · simp only [Bool.or_true, if_true, Bool.false_eq_true, if_false]
        exact (List.Perm.cons a ih).trans List.perm_middle.symm
    · have := hd a hq
      rw [this]
      simp only [Bool.or_false, if_true, Bool.false_eq_true, if_false, List.cons_append]
      exact List.Perm.cons a ih
theorem nd_flat {l : List Ent} (h : (l.map (·.1)).Nodup) : l.Nodup := by
  unfold List.Nodup at *
  rw [List.pairwise_map] at h
  exact h.imp (fun hab e => hab (by rw [e]))
/-- a bucket is what has its hash. -/
theorem bk_perm {seed : Int} {L : List (List Ent)} (hw : TWf seed L) (hnd : (L.flatten.map (·.1)).Nodup) (b : Nat) (hb : b ≤ 64) (hl : L.length = 2 ^ b) (x : Nat) : (bk L b x).Perm (L.flatten.filter fun e => decide (Rj b (hN seed e.1) = Rj b x)) := by
  have hx : x % 2 ^ b < L.length := by rw [hl]; exact Nat.mod_lt _ (Nat.two_pow_pos b)
  have e : bk L b x = L[x % 2 ^ b] := by unfold bk; rw [List.getElem?_eq_getElem hx, Option.getD_some]
  have hn1 := nd_flat hnd
  have hs : L[x % 2 ^ b].Sublist L.flatten := List.sublist_flatten_of_mem (List.getElem_mem hx)
  rw [e]
  refine (List.perm_ext_iff_of_nodup (hs.nodup hn1) (List.filter_sublist.nodup hn1)).2 (fun a => ?_)
  rw [List.mem_filter]
  constructor
  · intro ha
    refine ⟨hs.subset ha, ?_⟩
    have := hw.here _ hx a ha
    rw [hl] at this
    simp only [decide_eq_true_eq]
    rw [Rj_eq b hb]; exact this
  · rintro ⟨ha, hr⟩
    simp only [decide_eq_true_eq] at hr
    rw [Rj_eq b hb] at hr
    obtain ⟨k, v⟩ := a
    obtain ⟨h1, h2⟩ := hw.mem ha
    have he : hN seed k % L.length = x % 2 ^ b := by rw [hl]; exact hr
    simp only [he] at h2
    exact h2
theorem lpart_perm {seed : Int} {L : List (List Ent)} (hw : TWf seed L) (hnd : (L.flatten.map (·.1)).Nodup) (b : Nat) (hb : b ≤ 64) (hl : L.length = 2 ^ b) (c : Nat) : ∀ t, Rj b c + t ≤ 2 ^ b → (lpart L b t c).Perm (L.flatten.filter fun e => decide (Rj b c ≤ Rj b (hN seed e.1)) && decide (Rj b (hN seed e.1) < Rj b c + t))
  | 0, _ => by
    have : (L.flatten.filter fun e => decide (Rj b c ≤ Rj b (hN seed e.1)) && decide (Rj b (hN seed e.1) < Rj b c + 0)) = [] := by
      rw [List.filter_eq_nil_iff]
      intro a _ h
      simp at h; omega
    rw [this]; exact List.Perm.refl _
  | t + 1, ht => by
    have ih := lpart_perm hw hnd b hb hl c t (by omega)
    have hr := itN_R b hb c t
    rw [Nat.mod_eq_of_lt (by omega)] at hr
    have hbp := bk_perm hw hnd b hb hl (itN b t c)
    rw [hr] at hbp
    refine (List.Perm.append ih hbp).trans (filter_split _ _ _ _ (fun a => ?_) (fun a ha => ?_)).symm
    · rw [Bool.eq_iff_iff]
      simp only [Bool.and_eq_true, Bool.or_eq_true, decide_eq_true_eq]
      omega
    · simp only [Bool.and_eq_true, decide_eq_true_eq] at ha
      simp only [decide_eq_false_iff_not]
      omega
theorem lpart_le {seed : Int} {L : List (List Ent)} (hw : TWf seed L) (hnd : (L.flatten.map (·.1)).Nodup) (b : Nat) (hb : b ≤ 64) (hl : L.length = 2 ^ b) (c t : Nat) (ht : Rj b c + t ≤ 2 ^ b) : (lpart L b t c).length ≤ cnt L := by
  rw [(lpart_perm hw hnd b hb hl c t ht).length_eq]
  exact List.length_filter_le _ _
end Go.Proofs.Ytdemodhjlbkbeab
