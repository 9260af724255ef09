import Derived.Test.YtghgdekdbbogkaaIMath
namespace Go.Proofs.Ytghgdekdbbogkaa
open Go.RowKit IM
set_option linter.unusedVariables false
theorem i16_is (n : Int) : IntKind.i16.wrap n = (n + 32768) % 65536 - 32768 := by
  show (if true && decide (n % (2 ^ 16 : Int) ≥ (2 ^ 15 : Int)) then n % (2 ^ 16 : Int) - (2 ^ 16 : Int) else n % (2 ^ 16 : Int)) = _
  have e1 : (2 ^ 16 : Int) = 65536 := by decide
  have e2 : (2 ^ 15 : Int) = 32768 := by decide
  rw [e1, e2]
  simp only [Bool.true_and, decide_eq_true_eq]
  split <;> omega
theorem leN_at (s : ByteArray) (k : Nat) (h : k < s.size) : leN (s.data.toList.drop k) = s[k].toNat + 256 * leN (s.data.toList.drop (k + 1)) := by
  rw [drop_at s k h]; rfl
theorem leN_drop_lt (s : ByteArray) (k : Nat) (h : s.size ≤ 8) (hk : 1 ≤ k) : leN (s.data.toList.drop k) < 72057594037927936 := by
  have h1 := leN_lt (s.data.toList.drop k)
  have h2 : 256 ^ (s.data.toList.drop k).length ≤ 256 ^ 7 := Nat.pow_le_pow_right (by omega) (by rw [List.length_drop, list_len]; omega)
  have e : 256 ^ 7 = 72057594037927936 := by decide
  omega
set_option maxHeartbeats 1000000 in
set_option maxRecDepth 100000 in
theorem number_any (s : ByteArray) (h3 : W3 s.size) (w : World) :
    Calls Try.prog 39 #[.string s] w fun e w' => e = .returned (.int .i64 (sg s.size (leN s.data.toList))) ∧ ∃ n, w' = w.drewN n := by
  have h8 : s.size ≤ 8 := by rcases h3 with h | h | h <;> omega
  have H3 : Hid (W3 s.size) := h3
  clear h3
  go_enter Try.func39, Try.ntmps39
  go_wp2
  go_loopw [3, 4] (fun uu i wr => ∃ (m u : Nat), m ≤ s.size ∧ i = .int .i64 ((m : Int) - 1) ∧ uu = .int .u64 u ∧ u = leN (s.data.toList.drop m) ∧ ∃ n, wr = w.drewN n) (fun _ i _ => (intOf i + 1).toNat)
  case atStart => exact ⟨s.size, 0, by omega, by go_num, rfl, by rw [← list_len, List.drop_length]; rfl, 0, rfl⟩
  case round =>
    obtain ⟨m, u, hm, rfl, rfl, hu, k, rfl⟩ := hrel
    cases m with
    | succ j =>
      rw [show ((j + 1 : Nat) : Int) - 1 = (j : Int) by omega]
      have hlt : j < s.size := by omega
      have hb := s[j].toNat_lt
      have hub : u < 72057594037927936 := by rw [hu]; exact leN_drop_lt s _ h8 (by omega)
      have HN : Hid (leN (s.data.toList.drop j) = s[j].toNat + 256 * u) := by rw [hu]; exact leN_at s j hlt
      clear hu
      go_wp2
      go_roundw
      case rel => exact ⟨j, s[j].toNat + 256 * u, by omega, by go_num, by go_num, HN.out.symm, _, rfl⟩
      case measure => simp [intOf]
    | zero =>
      rw [List.drop_zero] at hu
      have hlt := leN_lt s.data.toList
      rw [← hu, list_len] at hlt
      rcases H3.out with e | e | e
      · have e2 : (256 ^ 2 : Nat) = 65536 := by decide
        rw [e] at hlt ⊢; rw [e2] at hlt
        have HG : Hid (sg 2 (leN s.data.toList) = if 2 * u < 65536 then (u : Int) else (u : Int) - 65536) := by
          have hx : sg 2 (leN s.data.toList) = if 2 * u < 65536 then (u : Int) else (u : Int) - 65536 := by unfold sg; rw [← hu, e2]; rfl
          exact hx
        clear hu
        go_wp2
        go_ret
        refine ⟨?_, _, rfl⟩
        rw [HG.out]
        refine ret_int ?_
        simp only [i16_is, wrap64]
        split <;> omega
      · have e2 : (256 ^ 4 : Nat) = 4294967296 := by decide
        rw [e] at hlt ⊢; rw [e2] at hlt
        have HG : Hid (sg 4 (leN s.data.toList) = if 2 * u < 4294967296 then (u : Int) else (u : Int) - 4294967296) := by
          have hx : sg 4 (leN s.data.toList) = if 2 * u < 4294967296 then (u : Int) else (u : Int) - 4294967296 := by unfold sg; rw [← hu, e2]; rfl
          exact hx
        clear hu
        go_wp2
        go_ret
        refine ⟨?_, _, rfl⟩
        rw [HG.out]
        refine ret_int ?_
        simp only [wrap32, wrap64]
        split <;> omega
      · have e2 : (256 ^ 8 : Nat) = 18446744073709551616 := by decide
        rw [e] at hlt ⊢; rw [e2] at hlt
        have HG : Hid (sg 8 (leN s.data.toList) = if 2 * u < 18446744073709551616 then (u : Int) else (u : Int) - 18446744073709551616) := by
          have hx : sg 8 (leN s.data.toList) = if 2 * u < 18446744073709551616 then (u : Int) else (u : Int) - 18446744073709551616 := by unfold sg; rw [← hu, e2]; rfl
          exact hx
        clear hu
        go_wp2
        go_ret
        refine ⟨?_, _, rfl⟩
        rw [HG.out]
        refine ret_int ?_
        simp only [wrap64]
        split <;> omega
end Go.Proofs.Ytghgdekdbbogkaa
