import Derived.Test.YtapmgknaimakoaaSure
namespace Go.Proofs.Ytapmgknaimakoaa
open Go.RowKit CrcM

/-- bytes as a number, the lowest first. -/
def num : List UInt8 → Nat
  | [] => 0
  | b :: l => b.toNat + 256 * num l
theorem num_lt (l : List UInt8) : num l < 256 ^ l.length := by
  induction l with
  | nil => simp [num]
  | cons b l ih =>
    have := b.toNat_lt
    simp only [num, List.length_cons, Nat.pow_succ]
    omega
theorem num_snoc (l : List UInt8) (b : UInt8) : num (l ++ [b]) = num l + b.toNat * 256 ^ l.length := by
  induction l with
  | nil => simp [num]
  | cons x l ih =>
    simp only [List.cons_append, num, List.length_cons, Nat.pow_succ, ih, Nat.mul_add]
    rw [Nat.mul_comm 256 (b.toNat * _), Nat.mul_assoc]
    omega
theorem num_take (s : ByteArray) (k : Nat) (h : k < s.size) : num (s.data.toList.take (k + 1)) = num (s.data.toList.take k) + s[k].toNat * 256 ^ k := by
  rw [take_snoc s k h, num_snoc, List.length_take_of_le (by simp; omega)]
theorem num_drop (s : ByteArray) (k : Nat) (h : k < s.size) : num (s.data.toList.drop k) = s[k].toNat + 256 * num (s.data.toList.drop (k + 1)) := by
  rw [List.drop_eq_getElem_cons (by simpa using h)]
  rfl
theorem num_take_lt (s : ByteArray) (k : Nat) (h : k ≤ s.size) : num (s.data.toList.take k) < 256 ^ k := by
  have := num_lt (s.data.toList.take k)
  rwa [List.length_take_of_le (by simp; omega)] at this
theorem num_drop_lt (s : ByteArray) (k : Nat) (h8 : s.size = 8) : num (s.data.toList.drop k) < 256 ^ (8 - k) := by
  have := num_lt (s.data.toList.drop k)
  rwa [List.length_drop, show s.data.toList.length = 8 by simpa using h8] at this
theorem num_bytes (c : BitVec 64) (k : Nat) : num (bytesOf c k) = c.toNat % 256 ^ k := by
  induction k with
  | zero => simp [bytesOf, num, Nat.mod_one]
  | succ k ih =>
    rw [bytesOf_succ, num_snoc, ih, bytesOf_length]
    unfold CrcM.byteOf
    rw [UInt8.toNat_ofNat', show (2 : Nat) ^ (8 * k) = 256 ^ k by rw [Nat.pow_mul], show 2 ^ 8 = 256 from rfl, Nat.pow_succ, Nat.mod_mul, Nat.mul_comm]
theorem or_add (c : Nat) (b : UInt8) (k : Nat) (hk : k < 8) (hc : c < 256 ^ k) :
    bits .or .u64 (c : Int) (IntKind.u64.wrap (IntKind.u64.wrap (b.toNat : Int) * 2 ^ (8 * k))) = ((c + b.toNat * 256 ^ k : Nat) : Int) := by
  have e : (256 : Nat) ^ k = 2 ^ (8 * k) := by rw [Nat.pow_mul]
  have hb := b.toNat_lt
  have h2 : (2 : Nat) ^ (8 * k) * 256 ≤ 18446744073709551616 := by
    rw [show (256 : Nat) = 2 ^ 8 from rfl, ← Nat.pow_add, show (18446744073709551616 : Nat) = 2 ^ 64 from rfl]
    exact Nat.pow_le_pow_right (by omega) (by omega)
  have hm : b.toNat * 2 ^ (8 * k) < 18446744073709551616 := by
    have : b.toNat * 2 ^ (8 * k) < 256 * 2 ^ (8 * k) := Nat.mul_lt_mul_of_pos_right hb (Nat.pow_pos (by omega))
    omega
  have hc' : c < 18446744073709551616 := by
    rw [e] at hc
    have : 2 ^ (8 * k) ≤ 2 ^ (8 * k) * 256 := Nat.le_mul_of_pos_right _ (by omega)
    omega
  have hw : IntKind.u64.wrap (IntKind.u64.wrap (b.toNat : Int) * 2 ^ (8 * k)) = ((b.toNat * 2 ^ (8 * k) : Nat) : Int) := by
    have e1 : IntKind.u64.wrap (b.toNat : Int) = (b.toNat : Int) := by rw [IntKind.wrap_u64]; omega
    have e2 : (b.toNat : Int) * 2 ^ (8 * k) = ((b.toNat * 2 ^ (8 * k) : Nat) : Int) := by simp
    rw [e1, e2, IntKind.wrap_u64]
    omega
  rw [hw, bits_or_u64_nat _ _ hc' hm, Nat.or_comm, ← Nat.shiftLeft_eq, ← Nat.shiftLeft_add_eq_or_of_lt (by rw [← e]; exact hc), Nat.shiftLeft_eq, ← e, Nat.add_comm]

theorem wrap_step (c : Nat) (b : UInt8) (h : b.toNat + 256 * c < 18446744073709551616) :
    IntKind.u64.wrap (IntKind.u64.wrap ((c : Int) * 256) + IntKind.u64.wrap (b.toNat : Int)) = ((b.toNat + 256 * c : Nat) : Int) := by
  rw [IntKind.wrap_u64, IntKind.wrap_u64, IntKind.wrap_u64]
  omega

set_option maxHeartbeats 400000 in
theorem read_other (s : ByteArray) (h : ((s.size : Int) != 8) = true) (w : World) :
    Calls Try.prog 16 #[.string s] w fun e w' => e = .returned (.tuple #[.int .u64 0, .bool false]) ∧ w' = w := by
  go_enter Try.func16, Try.ntmps16
  go_wp2
  go_ret2
  exact ⟨rfl, rfl⟩
set_option maxHeartbeats 400000 in
theorem refRead_other (s : ByteArray) (h : ((s.size : Int) != 8) = true) (w : World) :
    Calls Try.prog 17 #[.string s] w fun e w' => e = .returned (.tuple #[.int .u64 0, .bool false]) ∧ w' = w := by
  go_enter Try.func17, Try.ntmps17
  go_wp2
  go_ret2
  exact ⟨rfl, rfl⟩
set_option maxHeartbeats 400000 in
theorem read_eight (s : ByteArray) (h8 : s.size = 8) (w : World) :
    Calls Try.prog 16 #[.string s] w fun e w' => e = .returned (.tuple #[.int .u64 (num s.data.toList : Int), .bool true]) ∧ w' = w := by
  have H8 : Hid (s.size = 8) := h8
  have hl : ((s.size : Int) != 8) = false := by rw [h8]; rfl
  have hle : s.size ≤ 8 := by omega
  clear h8
  go_enter Try.func16, Try.ntmps16
  go_wp2
  go_loop [4, 11] (fun c i => ∃ k : Nat, k ≤ s.size ∧ i = .int .i64 k ∧ c = .int .u64 (num (s.data.toList.take k) : Int)) (fun _ i => s.size - (intOf i).toNat)
  case atStart => exact ⟨0, by omega, rfl, rfl⟩
  case round =>
    obtain ⟨k, hk, rfl, rfl⟩ := hrel
    by_cases hlt : k < s.size
    · have HN : Hid _ := num_take s k hlt
      have HO : Hid _ := or_add (num (s.data.toList.take k)) s[k] k (by omega) (num_take_lt s k hk)
      go_wp2
      go_round
      case rel => exact ⟨k + 1, by omega, by go_num, by rw [HN.out, HO.out]⟩
      case measure => simp [intOf]; omega
    · go_wp2
      go_ret2
      exact ⟨by rw [take_all _ _ (by omega)]; rfl, rfl⟩
set_option maxHeartbeats 400000 in
theorem refRead_eight (s : ByteArray) (h8 : s.size = 8) (w : World) :
    Calls Try.prog 17 #[.string s] w fun e w' => e = .returned (.tuple #[.int .u64 (num s.data.toList : Int), .bool true]) ∧ w' = w := by
  have H8 : Hid (s.size = 8) := h8
  have hl : ((s.size : Int) != 8) = false := by rw [h8]; rfl
  have hle : s.size ≤ 8 := by omega
  have hge : 8 ≤ s.size := by omega
  clear h8
  go_enter Try.func17, Try.ntmps17
  go_wp2
  go_loop [4, 5] (fun c i => ∃ k : Nat, k ≤ 8 ∧ i = .int .i64 ((k : Int) - 1) ∧ c = .int .u64 (num (s.data.toList.drop k) : Int)) (fun _ i => (intOf i + 1).toNat)
  case atStart => exact ⟨8, by omega, rfl, by rw [List.drop_of_length_le (by simp; omega)]; rfl⟩
  case round =>
    obtain ⟨k, hk, rfl, rfl⟩ := hrel
    cases k with
    | zero =>
      go_wp2
      go_ret2
      exact ⟨rfl, rfl⟩
    | succ k =>
      rw [show ((k + 1 : Nat) : Int) - 1 = (k : Int) by omega]
      have hks : k < s.size := by omega
      have HN : Hid _ := num_drop s k hks
      have HW : Hid _ := wrap_step (num (s.data.toList.drop (k + 1))) s[k] (by
        have h1 := num_drop_lt s k H8.out
        rw [HN.out] at h1
        have h2 : (256 : Nat) ^ (8 - k) ≤ 256 ^ 8 := Nat.pow_le_pow_right (by omega) (by omega)
        have h3 : (256 : Nat) ^ 8 = 18446744073709551616 := rfl
        omega)
      go_wp2
      go_round
      case rel => exact ⟨k, by omega, rfl, by rw [HN.out, HW.out]⟩
      case measure => simp [intOf]
end Go.Proofs.Ytapmgknaimakoaa
