import Derived.Test.YtapmgknaimakoaaSure
namespace Go.Proofs.Ytapmgknaimakoaa
open Go.RowKit CrcM

theorem odd_and (m : Nat) (h : m ≤ 9223372036854775807) : (bits .and .i64 (m : Int) 1 == 1) = decide (m % 2 = 1) := by
  have e : bits .and .i64 (m : Int) 1 = ((m % 2 : Nat) : Int) := by
    have h1 : (BitVec.ofInt 64 (m : Int)).toNat = m := by
      rw [BitVec.ofInt_natCast, BitVec.toNat_ofNat]; exact Nat.mod_eq_of_lt (by omega)
    show IntKind.i64.wrap ((BitVec.ofInt 64 (m : Int) &&& BitVec.ofInt 64 (1 : Int)).toNat : Int) = _
    rw [BitVec.toNat_and, h1, show (BitVec.ofInt 64 (1 : Int)).toNat = 1 from rfl, Nat.and_one_is_mod]
    have hl : m % 2 < 2 := Nat.mod_lt _ (by omega)
    simp [IntKind.wrap, IntKind.bits, IntKind.signed]
    omega
  rw [e, Bool.eq_iff_iff]
  simp only [beq_iff_eq, decide_eq_true_eq]
  omega
theorem start_one : (36028797018963968 : Int) = uv (Hn (8 * 2 ^ 0) one) := by decide +kernel
theorem join_odd (k m : Nat) (h : m % 2 = 1) (A : BitVec 64) : Hn (8 * 2 ^ (k + 1) * (m / 2)) (Hn (8 * 2 ^ k) A) = Hn (8 * 2 ^ k * m) A := by
  rw [← Hn_add]
  congr 1
  have e : m = 2 * (m / 2) + 1 := by omega
  generalize m / 2 = q at e
  subst e
  rw [Nat.pow_succ, Nat.mul_add, Nat.mul_one, ← Nat.mul_assoc, ← Nat.mul_assoc]
theorem join_even (k m : Nat) (h : ¬ m % 2 = 1) (A : BitVec 64) : Hn (8 * 2 ^ (k + 1) * (m / 2)) A = Hn (8 * 2 ^ k * m) A := by
  congr 1
  have e : m = 2 * (m / 2) := by omega
  generalize m / 2 = q at e
  subst e
  rw [Nat.pow_succ, ← Nat.mul_assoc, ← Nat.mul_assoc]
theorem square (k : Nat) : Hn (8 * 2 ^ k) (Hn (8 * 2 ^ k) one) = Hn (8 * 2 ^ (k + 1)) one := by
  rw [← Hn_add, Nat.pow_succ]
  congr 1
  omega

set_option maxHeartbeats 400000 in
theorem join_any (a b : BitVec 64) (n : Int) (hn : n ≤ 9223372036854775807) (w : World) :
    Calls Try.prog 12 #[.int .u64 (uv a), .int .u64 (uv b), .int .i64 n] w fun e w' => e = .returned (.int .u64 (uv (Hn (8 * n.toNat) a ^^^ b))) ∧ w' = w := by
  by_cases hpos : 0 < n
  · obtain ⟨m0, rfl⟩ : ∃ m : Nat, n = m := ⟨n.toNat, by omega⟩
    rw [Int.toNat_natCast]
    have hs := start_one
    go_enter Try.func12, Try.ntmps12
    go_wp2
    clear hs
    go_loop [0, 2, 7] (fun x n p => ∃ (A : BitVec 64) (k m : Nat), m ≤ 9223372036854775807 ∧ x = .int .u64 (uv A) ∧ n = .int .i64 m ∧ p = .int .u64 (uv (Hn (8 * 2 ^ k) one)) ∧ Hn (8 * 2 ^ k * m) A = Hn (8 * m0) a) (fun _ n _ => (intOf n).toNat)
    case atStart => exact ⟨a, 0, m0, by omega, rfl, rfl, by first | rfl | rw [← start_one], by simp⟩
    case round =>
      obtain ⟨A, k, m, hm, rfl, rfl, rfl, hrel⟩ := hrel
      have HR : Hid (Hn (8 * 2 ^ k * m) A = Hn (8 * m0) a) := hrel
      clear hrel
      have ho := odd_and m hm
      by_cases hz : 0 < m
      · by_cases hod : m % 2 = 1
        · have HJ := join_odd k m hod A
          have HJ' : Hid _ := HJ
          rw [decide_eq_true hod] at ho
          clear hod HJ
          go_wp2_with fail
          refine (mul_any _ (8 * 2 ^ k) _).mono ?_
          rintro e w' ⟨rfl, rfl⟩
          go_wp2_with fail
          refine (mul_any _ (8 * 2 ^ k) _).mono ?_
          rintro e w' ⟨rfl, rfl⟩
          go_wp2
          go_round
          case rel => exact ⟨Hn (8 * 2 ^ k) A, k + 1, m / 2, by omega, rfl, by go_num, by rw [square], by rw [HJ'.out]; exact HR.out⟩
          case measure => simp [intOf]; omega
        · have HJ := join_even k m hod A
          have HJ' : Hid _ := HJ
          rw [decide_eq_false hod] at ho
          clear hod HJ
          go_wp2_with fail
          refine (mul_any _ (8 * 2 ^ k) _).mono ?_
          rintro e w' ⟨rfl, rfl⟩
          go_wp2
          go_round
          case rel => exact ⟨A, k + 1, m / 2, by omega, rfl, by go_num, by rw [square], by rw [HJ'.out]; exact HR.out⟩
          case measure => simp [intOf]; omega
      · have HZ : Hid (m = 0) := by show _ = _; omega
        go_wp2
        go_ret
        exact ⟨ret_int (by rw [uv_xor, ← HR.out, HZ.out]; rfl), rfl⟩
  · have HT : Hid (n.toNat = 0) := by show _ = _; omega
    go_enter Try.func12, Try.ntmps12
    go_wp2
    refine wp_loop_rounds 1 ?_
    rw [rounds_succ]
    go_wp2
    go_ret
    exact ⟨ret_int (by rw [uv_xor, HT.out]; rfl), rfl⟩
end Go.Proofs.Ytapmgknaimakoaa
