import Derived.Test.YtcnicdcjdieodaaDoorLoops
namespace Go.Proofs.YtcnicdcjdieodaaDoor
open Go.RowKit Vi
set_option linter.unusedVariables false

theorem or_i64 (a b : Nat) (ha : a < 4294967296) (hb : b < 4294967296) : bits .or .i64 (a : Int) (b : Int) = ((a ||| b : Nat) : Int) :=
  (bits_nat .i64 32 (by decide) (fun n h0 h1 => by rw [IntKind.wrap_i64]; omega) a b (by simpa using ha) (by simpa using hb)).2
theorem or_low (c : Nat) (b : UInt8) (k : Nat) (hk : k < 4) (hc : c < 256 ^ k) :
    bits .or .i64 (c : Int) (wrap64 (wrap64 (b.toNat : Int) * 2 ^ (8 * k))) = ((c + b.toNat * 256 ^ k : Nat) : Int) := by
  have e : (256 : Nat) ^ k = 2 ^ (8 * k) := by rw [Nat.pow_mul]
  have hb := b.toNat_lt
  have h2 : (2 : Nat) ^ (8 * k) * 256 ≤ 4294967296 := by
    rw [show (256 : Nat) = 2 ^ 8 from rfl, ← Nat.pow_add, show (4294967296 : Nat) = 2 ^ 32 from rfl]
    exact Nat.pow_le_pow_right (by omega) (by omega)
  have hm : b.toNat * 2 ^ (8 * k) < 4294967296 := by
    have : b.toNat * 2 ^ (8 * k) < 256 * 2 ^ (8 * k) := Nat.mul_lt_mul_of_pos_right hb (Nat.pow_pos (by omega))
    omega
  have hc' : c < 4294967296 := by
    rw [e] at hc
    have : 2 ^ (8 * k) ≤ 2 ^ (8 * k) * 256 := Nat.le_mul_of_pos_right _ (by omega)
    omega
  have hw : wrap64 (wrap64 (b.toNat : Int) * 2 ^ (8 * k)) = ((b.toNat * 2 ^ (8 * k) : Nat) : Int) := by
    have e1 : wrap64 (b.toNat : Int) = (b.toNat : Int) := by unfold wrap64; omega
    have e2 : (b.toNat : Int) * 2 ^ (8 * k) = ((b.toNat * 2 ^ (8 * k) : Nat) : Int) := by simp
    rw [e1, e2]; unfold wrap64
    omega
  rw [hw, or_i64 _ _ hc' hm, Nat.or_comm, ← Nat.shiftLeft_eq, ← Nat.shiftLeft_add_eq_or_of_lt (by rw [← e]; exact hc), Nat.shiftLeft_eq, ← e, Nat.add_comm]

set_option maxHeartbeats 400000 in
theorem intIn_1 (s : ByteArray) (hn : s.size = 1) (w : World) :
    Calls Tryd.prog 38 #[.string s] w fun e w' => e = .returned (.int .i64 (sgn 256 (num s.data.toList))) ∧ w' = w := by
  have HS : Hid (s.size = 1) := hn
  have hz : (s.size : Int) = 1 := by omega
  have hle : s.size ≤ 1 := by omega
  have hge : 1 ≤ s.size := by omega
  clear hn
  go_enter Tryd.func38, Tryd.ntmps38
  go_wp2
  go_loop [3, 4, 8] (fun c _ i => ∃ k : Nat, k ≤ s.size ∧ i = .int .i64 k ∧ c = .int .i64 (num (s.data.toList.take k) : Int)) (fun _ _ i => s.size - (intOf i).toNat)
  case atStart => exact ⟨0, by omega, rfl, rfl⟩
  case round =>
    obtain ⟨k, hk, rfl, rfl⟩ := hrel
    by_cases hlt : k < s.size
    · have HN : Hid (num (s.data.toList.take (k + 1)) = num (s.data.toList.take k) + s[k].toNat * 256 ^ k) := by
        show _ = _
        rw [take_more _ _ _ (at_list s k hlt), num_snoc, List.length_take_of_le (by rw [list_len]; omega)]
      have HO : Hid _ := or_low (num (s.data.toList.take k)) s[k] k (by omega) (num_take_lt _ k (by omega))
      go_wp2
      go_round
      case rel => exact ⟨k + 1, by omega, by go_num, by rw [HN.out, HO.out]⟩
      case measure => simp [intOf]; omega
    · rw [List.take_of_length_le (by rw [list_len]; omega)]
      have hb := num_lt s.data.toList
      rw [list_len, HS.out] at hb
      rcases Nat.lt_or_ge (2 * num s.data.toList) 256 with hc | hc
      · have HG : Hid (sgn 256 (num s.data.toList) = ((num s.data.toList : Nat) : Int)) := sgn_lo hc
        have hx1 : ((num s.data.toList : Nat) : Int) < 128 := by omega
        have hx2 : ((num s.data.toList : Nat) : Int) < 256 := by omega
        have hx0 : 0 ≤ ((num s.data.toList : Nat) : Int) := by omega
        clear hc hb
        generalize ((num s.data.toList : Nat) : Int) = x at *
        go_wp2
        go_ret
        exact ⟨ret_int (by rw [HG.out]), rfl⟩
      · have HG : Hid (sgn 256 (num s.data.toList) = ((num s.data.toList : Nat) : Int) - 256) := sgn_hi hc
        have hx1 : 128 ≤ ((num s.data.toList : Nat) : Int) := by omega
        have hx2 : ((num s.data.toList : Nat) : Int) < 256 := by omega
        have hx0 : 0 ≤ ((num s.data.toList : Nat) : Int) := by omega
        clear hc hb
        generalize ((num s.data.toList : Nat) : Int) = x at *
        go_wp2
        go_ret
        exact ⟨ret_int (by rw [HG.out]), rfl⟩
set_option maxHeartbeats 400000 in
theorem intIn_2 (s : ByteArray) (hn : s.size = 2) (w : World) :
    Calls Tryd.prog 38 #[.string s] w fun e w' => e = .returned (.int .i64 (sgn 65536 (num s.data.toList))) ∧ w' = w := by
  have HS : Hid (s.size = 2) := hn
  have hz : (s.size : Int) = 2 := by omega
  have hle : s.size ≤ 2 := by omega
  have hge : 2 ≤ s.size := by omega
  clear hn
  go_enter Tryd.func38, Tryd.ntmps38
  go_wp2
  go_loop [3, 4, 8] (fun c _ i => ∃ k : Nat, k ≤ s.size ∧ i = .int .i64 k ∧ c = .int .i64 (num (s.data.toList.take k) : Int)) (fun _ _ i => s.size - (intOf i).toNat)
  case atStart => exact ⟨0, by omega, rfl, rfl⟩
  case round =>
    obtain ⟨k, hk, rfl, rfl⟩ := hrel
    by_cases hlt : k < s.size
    · have HN : Hid (num (s.data.toList.take (k + 1)) = num (s.data.toList.take k) + s[k].toNat * 256 ^ k) := by
        show _ = _
        rw [take_more _ _ _ (at_list s k hlt), num_snoc, List.length_take_of_le (by rw [list_len]; omega)]
      have HO : Hid _ := or_low (num (s.data.toList.take k)) s[k] k (by omega) (num_take_lt _ k (by omega))
      go_wp2
      go_round
      case rel => exact ⟨k + 1, by omega, by go_num, by rw [HN.out, HO.out]⟩
      case measure => simp [intOf]; omega
    · rw [List.take_of_length_le (by rw [list_len]; omega)]
      have hb := num_lt s.data.toList
      rw [list_len, HS.out] at hb
      rcases Nat.lt_or_ge (2 * num s.data.toList) 65536 with hc | hc
      · have HG : Hid (sgn 65536 (num s.data.toList) = ((num s.data.toList : Nat) : Int)) := sgn_lo hc
        have hx1 : ((num s.data.toList : Nat) : Int) < 32768 := by omega
        have hx2 : ((num s.data.toList : Nat) : Int) < 65536 := by omega
        have hx0 : 0 ≤ ((num s.data.toList : Nat) : Int) := by omega
        clear hc hb
        generalize ((num s.data.toList : Nat) : Int) = x at *
        go_wp2
        go_ret
        exact ⟨ret_int (by rw [HG.out]), rfl⟩
      · have HG : Hid (sgn 65536 (num s.data.toList) = ((num s.data.toList : Nat) : Int) - 65536) := sgn_hi hc
        have hx1 : 32768 ≤ ((num s.data.toList : Nat) : Int) := by omega
        have hx2 : ((num s.data.toList : Nat) : Int) < 65536 := by omega
        have hx0 : 0 ≤ ((num s.data.toList : Nat) : Int) := by omega
        clear hc hb
        generalize ((num s.data.toList : Nat) : Int) = x at *
        go_wp2
        go_ret
        exact ⟨ret_int (by rw [HG.out]), rfl⟩
set_option maxHeartbeats 400000 in
theorem intIn_4 (s : ByteArray) (hn : s.size = 4) (w : World) :
    Calls Tryd.prog 38 #[.string s] w fun e w' => e = .returned (.int .i64 (sgn 4294967296 (num s.data.toList))) ∧ w' = w := by
  have HS : Hid (s.size = 4) := hn
  have hz : (s.size : Int) = 4 := by omega
  have hle : s.size ≤ 4 := by omega
  have hge : 4 ≤ s.size := by omega
  clear hn
  go_enter Tryd.func38, Tryd.ntmps38
  go_wp2
  go_loop [3, 4, 8] (fun c _ i => ∃ k : Nat, k ≤ s.size ∧ i = .int .i64 k ∧ c = .int .i64 (num (s.data.toList.take k) : Int)) (fun _ _ i => s.size - (intOf i).toNat)
  case atStart => exact ⟨0, by omega, rfl, rfl⟩
  case round =>
    obtain ⟨k, hk, rfl, rfl⟩ := hrel
    by_cases hlt : k < s.size
    · have HN : Hid (num (s.data.toList.take (k + 1)) = num (s.data.toList.take k) + s[k].toNat * 256 ^ k) := by
        show _ = _
        rw [take_more _ _ _ (at_list s k hlt), num_snoc, List.length_take_of_le (by rw [list_len]; omega)]
      have HO : Hid _ := or_low (num (s.data.toList.take k)) s[k] k (by omega) (num_take_lt _ k (by omega))
      go_wp2
      go_round
      case rel => exact ⟨k + 1, by omega, by go_num, by rw [HN.out, HO.out]⟩
      case measure => simp [intOf]; omega
    · rw [List.take_of_length_le (by rw [list_len]; omega)]
      have hb := num_lt s.data.toList
      rw [list_len, HS.out] at hb
      rcases Nat.lt_or_ge (2 * num s.data.toList) 4294967296 with hc | hc
      · have HG : Hid (sgn 4294967296 (num s.data.toList) = ((num s.data.toList : Nat) : Int)) := sgn_lo hc
        have hx1 : ((num s.data.toList : Nat) : Int) < 2147483648 := by omega
        have hx2 : ((num s.data.toList : Nat) : Int) < 4294967296 := by omega
        have hx0 : 0 ≤ ((num s.data.toList : Nat) : Int) := by omega
        clear hc hb
        generalize ((num s.data.toList : Nat) : Int) = x at *
        go_wp2
        go_ret
        exact ⟨ret_int (by rw [HG.out]), rfl⟩
      · have HG : Hid (sgn 4294967296 (num s.data.toList) = ((num s.data.toList : Nat) : Int) - 4294967296) := sgn_hi hc
        have hx1 : 2147483648 ≤ ((num s.data.toList : Nat) : Int) := by omega
        have hx2 : ((num s.data.toList : Nat) : Int) < 4294967296 := by omega
        have hx0 : 0 ≤ ((num s.data.toList : Nat) : Int) := by omega
        clear hc hb
        generalize ((num s.data.toList : Nat) : Int) = x at *
        go_wp2
        go_ret
        exact ⟨ret_int (by rw [HG.out]), rfl⟩
set_option maxHeartbeats 400000 in
theorem signed_1 (s : ByteArray) (hn : s.size = 1) (w : World) :
    Calls Tryd.prog 45 #[.string s] w fun e w' => e = .returned (.int .i64 (sgn 256 (num s.data.toList))) ∧ w' = w := by
  have HS : Hid (s.size = 1) := hn
  have hz : (s.size : Int) = 1 := by omega
  have hle : s.size ≤ 1 := by omega
  have hge : 1 ≤ s.size := by omega
  clear hn
  go_enter Tryd.func45, Tryd.ntmps45
  go_wp2
  go_loop [3, 4] (fun c i => ∃ k : Nat, k ≤ s.size ∧ i = .int .i64 ((k : Int) - 1) ∧ c = .int .i64 (num (s.data.toList.drop k) : Int)) (fun _ i => (intOf i + 1).toNat)
  case atStart => exact ⟨1, by omega, rfl, by rw [List.drop_of_length_le (by rw [list_len]; omega)]; rfl⟩
  case round =>
    obtain ⟨k, hk, rfl, rfl⟩ := hrel
    cases k with
    | zero =>
      rw [List.drop_zero]
      have hb := num_lt s.data.toList
      rw [list_len, HS.out] at hb
      rcases Nat.lt_or_ge (2 * num s.data.toList) 256 with hc | hc
      · have HG : Hid (sgn 256 (num s.data.toList) = ((num s.data.toList : Nat) : Int)) := sgn_lo hc
        have hx1 : ((num s.data.toList : Nat) : Int) < 128 := by omega
        have hx2 : ((num s.data.toList : Nat) : Int) < 256 := by omega
        have hx0 : 0 ≤ ((num s.data.toList : Nat) : Int) := by omega
        clear hc hb
        generalize ((num s.data.toList : Nat) : Int) = x at *
        go_wp2
        go_ret
        exact ⟨ret_int (by rw [HG.out]), rfl⟩
      · have HG : Hid (sgn 256 (num s.data.toList) = ((num s.data.toList : Nat) : Int) - 256) := sgn_hi hc
        have hx1 : 128 ≤ ((num s.data.toList : Nat) : Int) := by omega
        have hx2 : ((num s.data.toList : Nat) : Int) < 256 := by omega
        have hx0 : 0 ≤ ((num s.data.toList : Nat) : Int) := by omega
        clear hc hb
        generalize ((num s.data.toList : Nat) : Int) = x at *
        go_wp2
        go_ret
        exact ⟨ret_int (by rw [HG.out]), rfl⟩
    | succ k =>
      rw [show ((k + 1 : Nat) : Int) - 1 = (k : Int) by omega]
      have hks : k < s.size := by omega
      have hb := s[k].toNat_lt
      have HN : Hid (num (s.data.toList.drop k) = s[k].toNat + 256 * num (s.data.toList.drop (k + 1))) := by
        show _ = _
        rw [drop_more _ _ _ (at_list s k hks)]; rfl
      have hd := num_drop_lt s.data.toList (k + 1) (by rw [list_len]; omega)
      go_wp2
      go_round
      case rel => exact ⟨k, by omega, rfl, by rw [HN.out]; go_num⟩
      case measure => simp [intOf]
set_option maxHeartbeats 400000 in
theorem signed_2 (s : ByteArray) (hn : s.size = 2) (w : World) :
    Calls Tryd.prog 45 #[.string s] w fun e w' => e = .returned (.int .i64 (sgn 65536 (num s.data.toList))) ∧ w' = w := by
  have HS : Hid (s.size = 2) := hn
  have hz : (s.size : Int) = 2 := by omega
  have hle : s.size ≤ 2 := by omega
  have hge : 2 ≤ s.size := by omega
  clear hn
  go_enter Tryd.func45, Tryd.ntmps45
  go_wp2
  go_loop [3, 4] (fun c i => ∃ k : Nat, k ≤ s.size ∧ i = .int .i64 ((k : Int) - 1) ∧ c = .int .i64 (num (s.data.toList.drop k) : Int)) (fun _ i => (intOf i + 1).toNat)
  case atStart => exact ⟨2, by omega, rfl, by rw [List.drop_of_length_le (by rw [list_len]; omega)]; rfl⟩
  case round =>
    obtain ⟨k, hk, rfl, rfl⟩ := hrel
    cases k with
    | zero =>
      rw [List.drop_zero]
      have hb := num_lt s.data.toList
      rw [list_len, HS.out] at hb
      rcases Nat.lt_or_ge (2 * num s.data.toList) 65536 with hc | hc
      · have HG : Hid (sgn 65536 (num s.data.toList) = ((num s.data.toList : Nat) : Int)) := sgn_lo hc
        have hx1 : ((num s.data.toList : Nat) : Int) < 32768 := by omega
        have hx2 : ((num s.data.toList : Nat) : Int) < 65536 := by omega
        have hx0 : 0 ≤ ((num s.data.toList : Nat) : Int) := by omega
        clear hc hb
        generalize ((num s.data.toList : Nat) : Int) = x at *
        go_wp2
        go_ret
        exact ⟨ret_int (by rw [HG.out]), rfl⟩
      · have HG : Hid (sgn 65536 (num s.data.toList) = ((num s.data.toList : Nat) : Int) - 65536) := sgn_hi hc
        have hx1 : 32768 ≤ ((num s.data.toList : Nat) : Int) := by omega
        have hx2 : ((num s.data.toList : Nat) : Int) < 65536 := by omega
        have hx0 : 0 ≤ ((num s.data.toList : Nat) : Int) := by omega
        clear hc hb
        generalize ((num s.data.toList : Nat) : Int) = x at *
        go_wp2
        go_ret
        exact ⟨ret_int (by rw [HG.out]), rfl⟩
    | succ k =>
      rw [show ((k + 1 : Nat) : Int) - 1 = (k : Int) by omega]
      have hks : k < s.size := by omega
      have hb := s[k].toNat_lt
      have HN : Hid (num (s.data.toList.drop k) = s[k].toNat + 256 * num (s.data.toList.drop (k + 1))) := by
        show _ = _
        rw [drop_more _ _ _ (at_list s k hks)]; rfl
      have hd := num_drop_lt s.data.toList (k + 1) (by rw [list_len]; omega)
      go_wp2
      go_round
      case rel => exact ⟨k, by omega, rfl, by rw [HN.out]; go_num⟩
      case measure => simp [intOf]
set_option maxHeartbeats 400000 in
theorem signed_4 (s : ByteArray) (hn : s.size = 4) (w : World) :
    Calls Tryd.prog 45 #[.string s] w fun e w' => e = .returned (.int .i64 (sgn 4294967296 (num s.data.toList))) ∧ w' = w := by
  have HS : Hid (s.size = 4) := hn
  have hz : (s.size : Int) = 4 := by omega
  have hle : s.size ≤ 4 := by omega
  have hge : 4 ≤ s.size := by omega
  clear hn
  go_enter Tryd.func45, Tryd.ntmps45
  go_wp2
  go_loop [3, 4] (fun c i => ∃ k : Nat, k ≤ s.size ∧ i = .int .i64 ((k : Int) - 1) ∧ c = .int .i64 (num (s.data.toList.drop k) : Int)) (fun _ i => (intOf i + 1).toNat)
  case atStart => exact ⟨4, by omega, rfl, by rw [List.drop_of_length_le (by rw [list_len]; omega)]; rfl⟩
  case round =>
    obtain ⟨k, hk, rfl, rfl⟩ := hrel
    cases k with
    | zero =>
      rw [List.drop_zero]
      have hb := num_lt s.data.toList
      rw [list_len, HS.out] at hb
      rcases Nat.lt_or_ge (2 * num s.data.toList) 4294967296 with hc | hc
      · have HG : Hid (sgn 4294967296 (num s.data.toList) = ((num s.data.toList : Nat) : Int)) := sgn_lo hc
        have hx1 : ((num s.data.toList : Nat) : Int) < 2147483648 := by omega
        have hx2 : ((num s.data.toList : Nat) : Int) < 4294967296 := by omega
        have hx0 : 0 ≤ ((num s.data.toList : Nat) : Int) := by omega
        clear hc hb
        generalize ((num s.data.toList : Nat) : Int) = x at *
        go_wp2
        go_ret
        exact ⟨ret_int (by rw [HG.out]), rfl⟩
      · have HG : Hid (sgn 4294967296 (num s.data.toList) = ((num s.data.toList : Nat) : Int) - 4294967296) := sgn_hi hc
        have hx1 : 2147483648 ≤ ((num s.data.toList : Nat) : Int) := by omega
        have hx2 : ((num s.data.toList : Nat) : Int) < 4294967296 := by omega
        have hx0 : 0 ≤ ((num s.data.toList : Nat) : Int) := by omega
        clear hc hb
        generalize ((num s.data.toList : Nat) : Int) = x at *
        go_wp2
        go_ret
        exact ⟨ret_int (by rw [HG.out]), rfl⟩
    | succ k =>
      rw [show ((k + 1 : Nat) : Int) - 1 = (k : Int) by omega]
      have hks : k < s.size := by omega
      have hb := s[k].toNat_lt
      have HN : Hid (num (s.data.toList.drop k) = s[k].toNat + 256 * num (s.data.toList.drop (k + 1))) := by
        show _ = _
        rw [drop_more _ _ _ (at_list s k hks)]; rfl
      have hd := num_drop_lt s.data.toList (k + 1) (by rw [list_len]; omega)
      go_wp2
      go_round
      case rel => exact ⟨k, by omega, rfl, by rw [HN.out]; go_num⟩
      case measure => simp [intOf]
end Go.Proofs.YtcnicdcjdieodaaDoor
