import Derived.Test.YtcnicdcjdieodaaDoorLeaf
import Derived.Test.YtcnicdcjdieodaaDoorLoopMath
namespace Go.Proofs.YtcnicdcjdieodaaDoor
open Go.RowKit Vi
set_option linter.unusedVariables false

theorem at_list (s : ByteArray) (k : Nat) (h : k < s.size) : s.data.toList[k]? = some s[k] := by
  rw [List.getElem?_eq_getElem (by simpa using h)]; rfl
theorem list_len (s : ByteArray) : s.data.toList.length = s.size := by show _ = s.data.size; simp

theorem or_byte (c : Nat) (b : UInt8) (hc : c < 72057594037927936) :
    bits .or .u64 (IntKind.u64.wrap ((c : Int) * 256)) (IntKind.u64.wrap (b.toNat : Int)) = ((c * 256 + b.toNat : Nat) : Int) := by
  have hb := b.toNat_lt
  rw [show IntKind.u64.wrap ((c : Int) * 256) = ((c * 256 : Nat) : Int) by rw [IntKind.wrap_u64]; omega, show IntKind.u64.wrap (b.toNat : Int) = ((b.toNat : Nat) : Int) by rw [IntKind.wrap_u64]; omega]
  rw [bits_or_u64_nat _ _ (by omega) (by omega), show c * 256 = c <<< 8 by rw [Nat.shiftLeft_eq], ← Nat.shiftLeft_add_eq_or_of_lt (by simpa using hb)]

set_option maxHeartbeats 400000 in
theorem lenIn_long (s : ByteArray) (h3 : 3 ≤ s.size) (h9 : s.size ≤ 9) (w : World) :
    Calls Tryd.prog 36 #[.string s] w fun e w' => e = .returned (.int .u64 (val (tl s.data.toList) : Int)) ∧ w' = w := by
  go_enter Tryd.func36, Tryd.ntmps36
  go_wp2
  go_loop [3, 4] (fun c i => ∃ k : Nat, k + 1 ≤ s.size ∧ i = .int .i64 ((k + 1 : Nat) : Int) ∧ c = .int .u64 (val ((tl s.data.toList).take k) : Int)) (fun _ i => s.size - (intOf i).toNat)
  case atStart => exact ⟨0, by omega, rfl, rfl⟩
  case round =>
    obtain ⟨k, hk, rfl, rfl⟩ := hrel
    by_cases hlt : k + 1 < s.size
    · have HN : Hid (val ((tl s.data.toList).take (k + 1)) = val ((tl s.data.toList).take k) * 256 + (s[k + 1]).toNat) := by
        show _ = _
        rw [tail_take _ _ _ (at_list s (k + 1) hlt), val_snoc]
      have HO : Hid _ := or_byte (val ((tl s.data.toList).take k)) s[k + 1] (val_small _ (by rw [List.length_take]; omega))
      go_wp2
      go_round
      case rel => exact ⟨k + 1, by omega, by go_num, by rw [HN.out, HO.out]⟩
      case measure => simp [intOf]; omega
    · go_wp2
      go_ret
      exact ⟨ret_int (by rw [List.take_of_length_le (by rw [tl_length, list_len]; omega)]), rfl⟩
set_option maxHeartbeats 400000 in
theorem lenIn_short (s : ByteArray) (h3 : s.size ≤ 2) (h1 : 1 ≤ s.size) (w : World) :
    Calls Tryd.prog 36 #[.string s] w fun e w' => e = .returned (.int .u64 (valF (s[0].toNat % 64) (tl s.data.toList) : Int)) ∧ w' = w := by
  have hs0 : 0 < s.size := by omega
  have hdd : decide ((s.size : Int) ≤ 2) = true := by simp; omega
  have H0 : Hid (IntKind.u64.wrap ((s[0].toNat : Int) % 64) = ((s[0].toNat % 64 : Nat) : Int)) := by show _ = _; rw [IntKind.wrap_u64]; omega
  go_enter Tryd.func36, Tryd.ntmps36
  go_wp2
  go_loop [3, 4] (fun c i => ∃ k : Nat, k + 1 ≤ s.size ∧ i = .int .i64 ((k + 1 : Nat) : Int) ∧ c = .int .u64 (valF (s[0].toNat % 64) ((tl s.data.toList).take k) : Int)) (fun _ i => s.size - (intOf i).toNat)
  case atStart => exact ⟨0, by omega, rfl, by go_num⟩
  case round =>
    obtain ⟨k, hk, rfl, rfl⟩ := hrel
    by_cases hlt : k + 1 < s.size
    · have HN : Hid (valF (s[0].toNat % 64) ((tl s.data.toList).take (k + 1)) = valF (s[0].toNat % 64) ((tl s.data.toList).take k) * 256 + (s[k + 1]).toNat) := by
        show _ = _
        rw [tail_take _ _ _ (at_list s (k + 1) hlt), valF_snoc]
      have HO : Hid _ := or_byte (valF (s[0].toNat % 64) ((tl s.data.toList).take k)) s[k + 1] (by
        have := valF_small (s[0].toNat % 64) (by omega) ((tl s.data.toList).take k) (by rw [List.length_take]; omega)
        omega)
      go_wp2
      go_round
      case rel => exact ⟨k + 1, by omega, by go_num, by rw [HN.out, HO.out]⟩
      case measure => simp [intOf]; omega
    · go_wp2
      go_ret
      exact ⟨ret_int (by rw [List.take_of_length_le (by rw [tl_length, list_len]; omega)]), rfl⟩

def valR (m : Nat) : Int := if m ≤ 4611686018427387904 then (m : Int) else -1
theorem valR_ok {m : Nat} (h : m ≤ 4611686018427387904) : valR m = m := by unfold valR; rw [if_pos h]
theorem valR_no {m : Nat} (h : 4611686018427387904 < m) : valR m = -1 := by unfold valR; rw [if_neg (by omega)]
set_option maxHeartbeats 400000 in
theorem value_any (s : ByteArray) (h8 : s.size ≤ 8) (w : World) :
    Calls Tryd.prog 44 #[.string s] w fun e w' => e = .returned (.int .i64 (valR (val s.data.toList))) ∧ w' = w := by
  go_enter Tryd.func44, Tryd.ntmps44
  go_wp2
  go_loop [3, 4] (fun c i => ∃ k : Nat, k ≤ s.size ∧ i = .int .i64 k ∧ c = .int .i64 (val (s.data.toList.take k) : Int) ∧ val (s.data.toList.take k) ≤ 4611686018427388159) (fun _ i => s.size - (intOf i).toNat)
  case atStart => exact ⟨0, by omega, rfl, rfl, by simp [val]⟩
  case round =>
    obtain ⟨k, hk, rfl, rfl, hm⟩ := hrel
    by_cases hlt : k < s.size
    · have hb := s[k].toNat_lt
      have HN : Hid (val (s.data.toList.take (k + 1)) = val (s.data.toList.take k) * 256 + s[k].toNat) := by
        show _ = _
        rw [take_more _ _ _ (at_list s k hlt), val_snoc]
      by_cases hbig : val (s.data.toList.take k) ≤ 18014398509481984
      · have HW : Hid (IntKind.i64.wrap (IntKind.i64.wrap ((val (s.data.toList.take k) : Int) * 256) + (s[k].toNat : Int)) = ((val (s.data.toList.take k) * 256 + s[k].toNat : Nat) : Int)) := by
          show _ = _; rw [IntKind.wrap_i64, IntKind.wrap_i64]; omega
        go_wp2
        go_round
        case rel => exact ⟨k + 1, by omega, by go_num, by rw [HN.out]; first | rw [HW.out] | go_num, by rw [HN.out]; omega⟩
        case measure => simp [intOf]; omega
      · have HV : Hid (valR (val s.data.toList) = -1) := by
          apply valR_no
          have h1 := val_take_le s.data.toList (k + 1)
          rw [HN.out] at h1
          omega
        go_wp2
        go_ret
        exact ⟨ret_int (by rw [HV.out]), rfl⟩
    · rw [List.take_of_length_le (by rw [list_len]; omega)] at hm ⊢
      by_cases hbig : val s.data.toList ≤ 4611686018427387904
      · have HV : Hid _ := valR_ok hbig
        go_wp2
        go_ret
        exact ⟨ret_int (by rw [HV.out]), rfl⟩
      · have HV : Hid _ := valR_no (m := val s.data.toList) (by omega)
        go_wp2
        go_ret
        exact ⟨ret_int (by rw [HV.out]), rfl⟩
end Go.Proofs.YtcnicdcjdieodaaDoor
