import Derived.Test.YtapmgknaimakoaaRows
import Derived.Test.YtapmgknaimakoaaMath
import Derived.WalkKit
import Derived.WalkSpells
import Derived.WalkLawsBesides
namespace Go.Proofs.Ytapmgknaimakoaa
open Go.RowKit CrcM

theorem ret_int {k : IntKind} {a b : Int} (h : a = b) : Ending.returned (.int k a) = .returned (.int k b) := by rw [h]

set_option maxHeartbeats 400000 in
theorem halve_any (v : BitVec 64) (w : World) :
    Calls Try.prog 24 #[.int .u64 (uv v)] w fun e w' => e = .returned (.int .u64 (uv (H v))) ∧ w' = w := by
  have hb := bit0_and v
  have hH : Hid (uv (H v) = if v.getLsbD 0 then bits .xor .u64 (uv v / 2) 10785157014839085493 else uv v / 2) := uv_H v
  cases hc : v.getLsbD 0
  all_goals
    rw [hc] at hb
    go_enter Try.func24, Try.ntmps24
    go_wp2
    go_ret
    exact ⟨ret_int (by rw [hH.out, hc]; rfl), rfl⟩

set_option maxHeartbeats 400000 in
theorem half_any (v : BitVec 64) (w : World) :
    Calls Try.prog 22 #[.int .u64 (uv v)] w fun e w' => e = .returned (.int .u64 (uv (H v))) ∧ w' = w := by
  have hb := bit0_mod v
  have h0 := uv_lo v
  have hH : Hid (uv (H v) = if v.getLsbD 0 then bits .xor .u64 (uv v / 2) 10785157014839085493 else uv v / 2) := uv_H v
  cases hc : v.getLsbD 0
  all_goals
    rw [hc] at hb
    go_enter Try.func22, Try.ntmps22
    go_wp2
    go_ret
    exact ⟨ret_int (by rw [hH.out, hc, uv_tdiv _ _ (by decide)]; rfl), rfl⟩

set_option maxHeartbeats 400000 in
theorem mul_any (a : BitVec 64) (N : Nat) (w : World) :
    Calls Try.prog 21 #[.int .u64 (uv a), .int .u64 (uv (Hn N one))] w fun e w' => e = .returned (.int .u64 (uv (Hn N a))) ∧ w' = w := by
  go_enter Try.func21, Try.ntmps21
  go_wp2
  go_loop [0, 1, 5] (fun x y p => ∃ (j : Nat) (q : BitVec 64), j ≤ 64 ∧ x = .int .u64 (uv (a <<< j)) ∧ y = .int .u64 (uv (Hn j (Hn N one))) ∧ p = .int .u64 (uv q) ∧ q ^^^ Hn N ((a <<< j) >>> j) = Hn N a) (fun x _ _ => msr (intOf x))
  case atStart => exact ⟨0, 0#64, by omega, by simp, rfl, rfl, by simp⟩
  case round =>
    obtain ⟨j, q, hj, rfl, rfl, rfl, hq⟩ := hrel
    have HQ : Hid (q ^^^ Hn N ((a <<< j) >>> j) = Hn N a) := hq
    clear hq
    by_cases hz : a <<< j = 0#64
    · have HZ : Hid (a <<< j = 0#64) := hz
      have t : (uv (a <<< j) != 0) = false := by rw [uv_ne, hz]; rfl
      clear hz
      go_wp2
      go_ret
      exact ⟨ret_int (by have := HQ.out; rw [HZ.out] at this; simp [Hn_zero] at this; rw [this]), rfl⟩
    · have hlt : j < 64 := by
        rcases Nat.lt_or_ge j 64 with h | h
        · exact h
        · exact absurd (BitVec.shiftLeft_eq_zero h) hz
      have HZ : Hid (¬ a <<< j = 0#64) := hz
      have t : (uv (a <<< j) != 0) = true := by rw [uv_ne]; simpa using hz
      clear hz
      have t2 := top_and (a <<< j)
      have HS := mul_step N j a q hlt HQ.out
      cases hc : (a <<< j).getLsbD 63
      · rw [hc] at t2 HS
        have HS' : Hid _ := HS
        clear HS hc
        go_wp2_with (go_at_call 24; refine (halve_any _ _).mono ?_; rintro e w' ⟨rfl, rfl⟩)
        go_round
        case rel => exact ⟨j + 1, _, by omega, by rw [uv_shl1, BitVec.shiftLeft_add], by rw [Hn_succ], by first | rfl | (rw [uv_xor]; rfl), HS'.out⟩
        case measure => simp only [intOf]; rw [uv_shl1]; exact msr_lt _ HZ.out
      · rw [hc] at t2 HS
        have HS' : Hid _ := HS
        clear HS hc
        go_wp2_with (go_at_call 24; refine (halve_any _ _).mono ?_; rintro e w' ⟨rfl, rfl⟩)
        go_round
        case rel => exact ⟨j + 1, _, by omega, by rw [uv_shl1, BitVec.shiftLeft_add], by rw [Hn_succ], by first | rfl | (rw [uv_xor]; rfl), HS'.out⟩
        case measure => simp only [intOf]; rw [uv_shl1]; exact msr_lt _ HZ.out

set_option maxHeartbeats 400000 in
theorem refUpdate_any (c : BitVec 64) (s : ByteArray) (hs : s.size ≤ maxLen) (w : World) :
    Calls Try.prog 15 #[.int .u64 (uv c), .string s] w fun e w' => e = .returned (.int .u64 (uv (upd c s.data.toList))) ∧ w' = w := by
  unfold maxLen at hs
  go_enter Try.func15, Try.ntmps15
  go_wp2
  go_loop [0, 5] (fun x i => ∃ k : Nat, k ≤ s.size ∧ i = .int .i64 k ∧ x = .int .u64 (uv (upd c (s.data.toList.take k)))) (fun _ i => s.size - (intOf i).toNat)
  case atStart => exact ⟨0, by omega, rfl, rfl⟩
  case round =>
    obtain ⟨k, hk, rfl, rfl⟩ := hrel
    by_cases hlt : k < s.size
    · have HU : Hid (upd c (s.data.toList.take (k + 1)) = Hn 8 (upd c (s.data.toList.take k) ^^^ wide s[k])) := upd_take c s k hlt
      have HX : Hid (bits .xor .u64 (uv (upd c (s.data.toList.take k))) (IntKind.u64.wrap (s[k].toNat : Int)) = uv (upd c (s.data.toList.take k) ^^^ wide s[k])) := by
        show _ = _
        rw [wrap_byte, uv_xor]
      go_wp2
      go_loop [0, 6] (fun x i => ∃ j : Nat, j ≤ 8 ∧ i = .int .i64 j ∧ x = .int .u64 (uv (Hn j (upd c (s.data.toList.take k) ^^^ wide s[k])))) (fun _ i => 8 - (intOf i).toNat)
      case atStart => exact ⟨0, by omega, rfl, by rw [HX.out]; rfl⟩
      case round =>
        obtain ⟨j, hj, rfl, rfl⟩ := hrel
        by_cases hjl : j < 8
        · go_wp2_with (go_at_call 22; refine (half_any _ _).mono ?_; rintro e w' ⟨rfl, rfl⟩)
          go_round
          case rel => exact ⟨j + 1, by omega, by go_num, by rw [Hn_succ]⟩
          case measure => simp [intOf]; omega
        · go_wp2
          go_round
          case rel => exact ⟨k + 1, by omega, by go_num, by rw [HU.out, show j = 8 by omega]⟩
          case measure => simp [intOf]; omega
    · go_wp2
      go_ret
      exact ⟨ret_int (by rw [take_all _ _ (by omega)]), rfl⟩

set_option maxHeartbeats 400000 in
theorem refSum_any (s : ByteArray) (hs : s.size ≤ maxLen) (w : World) :
    Calls Try.prog 14 #[.string s] w fun e w' => e = .returned (.int .u64 (uv (upd 0#64 s.data.toList))) ∧ w' = w := by
  have h := refUpdate_any 0#64 s hs w
  rw [uv_zero] at h
  go_enter Try.func14, Try.ntmps14
  go_wp2_with (go_at_call 15; refine h.mono ?_; rintro e w' ⟨rfl, rfl⟩)
  go_ret
  exact ⟨rfl, rfl⟩
end Go.Proofs.Ytapmgknaimakoaa
