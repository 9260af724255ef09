import Derived.Test.YtadihhngegimkaaGreatDoorLeaf2
import Derived.Laws.Bits64b
namespace Go.Proofs.YtadihhngegimkaaGreatDoor
open Go.RowKit
set_option linter.unusedVariables false
theorem of64 (z : Nat) (h : z < 18446744073709551616) : (BitVec.ofInt 64 (wrap64 (z : Int))).toNat = z := by
  rw [BitVec.toNat_ofInt]; unfold wrap64
  have : ((((z : Int) + 9223372036854775808) % 18446744073709551616 - 9223372036854775808) % ((2 ^ 64 : Nat) : Int)) = (z : Int) := by
    rw [show ((2 ^ 64 : Nat) : Int) = 18446744073709551616 by decide]; omega
  rw [this]; omega
theorem w64_wrap (x : Int) : IntKind.i64.wrap x = wrap64 x := by rw [IntKind.wrap_i64]; unfold wrap64; rfl
theorem or64 (x b k : Nat) (hx : x < 2 ^ k) (hk : k ≤ 56) (hb : b < 256) : bits .or .i64 (wrap64 (x : Int)) (wrap64 ((b * 2 ^ k : Nat) : Int)) = wrap64 ((x + b * 2 ^ k : Nat) : Int) := by
  have h56 : (2 : Nat) ^ k ≤ 2 ^ 56 := Nat.pow_le_pow_right (by omega) hk
  have e56 : (2 : Nat) ^ 56 = 72057594037927936 := by decide
  have hm : b * 2 ^ k ≤ 255 * 2 ^ k := Nat.mul_le_mul_right _ (by omega)
  show IntKind.i64.wrap ((BitVec.ofInt 64 (wrap64 (x : Int)) ||| BitVec.ofInt 64 (wrap64 ((b * 2 ^ k : Nat) : Int))).toNat : Int) = _
  rw [BitVec.toNat_or, of64 _ (by omega), of64 _ (by omega), w64_wrap]
  have h2 := Nat.two_pow_add_eq_or_of_lt hx b
  rw [Nat.or_comm, Nat.mul_comm b, ← h2, Nat.add_comm]
theorem leN_snoc (l : List UInt8) (b : UInt8) : LM.leN (l ++ [b]) = LM.leN l + b.toNat * 256 ^ l.length := by
  rw [LM.leN_app]; simp only [LM.leN]; rw [Nat.mul_comm]; rfl
theorem take_more (l : List UInt8) (i : Nat) (b : UInt8) (h : l[i]? = some b) : l.take (i + 1) = l.take i ++ [b] := by
  obtain ⟨hi, e⟩ := List.getElem?_eq_some_iff.1 h
  rw [List.take_succ_eq_append_getElem hi, e]
theorem low_step (s : ByteArray) (i : Nat) (h : i < s.size) (h8 : i < 8) :
    bits .or .i64 (wrap64 (LM.leN (s.data.toList.take i) : Nat)) (wrap64 ((s[i].toNat * 2 ^ (8 * i) : Nat) : Int)) = wrap64 (LM.leN (s.data.toList.take (i + 1)) : Nat) := by
  have hl : (s.data.toList.take i).length = i := by rw [List.length_take, list_len]; omega
  have hlt := LM.leN_lt (s.data.toList.take i)
  have e : (256 : Nat) ^ i = 2 ^ (8 * i) := by rw [Nat.pow_mul]
  rw [hl, e] at hlt
  rw [take_more _ i s[i] (at_list s i h), leN_snoc, hl, e]
  exact or64 _ _ _ hlt (by omega) s[i].toNat_lt
set_option maxHeartbeats 4000000 in
set_option maxRecDepth 100000 in
theorem low_any (s : ByteArray) (h : s.size ≤ 8) (w : World) : Calls Tryz.prog 38 #[.string s] w fun e w' => e = .returned (.int .i64 (wrap64 (LM.leN s.data.toList : Nat))) ∧ w' = w := by
  go_enter Tryz.func38, Tryz.ntmps38
  go_wp2
  go_loop [3, 7, 4, 8, 9, 10, 11, 12, 13, 14, 15, 16, 17, 18, 19] (fun n c _ _ _ _ _ _ _ _ _ _ _ _ _ => ∃ i : Nat, i ≤ s.size ∧ c = .int .i64 (i : Int) ∧ n = .int .i64 (wrap64 (LM.leN (s.data.toList.take i) : Nat))) (fun _ c _ _ _ _ _ _ _ _ _ _ _ _ _ => s.size - (intOf c).toNat)
  case atStart => exact ⟨0, by omega, rfl, by simp [LM.leN, wrap64]⟩
  case round =>
    obtain ⟨i, hi, rfl, rfl⟩ := hrel
    by_cases hc : i = s.size
    · subst hc
      have HT : Hid (s.data.toList.take s.size = s.data.toList) := by show _ = _; rw [List.take_of_length_le (by rw [list_len]; omega)]
      go_wp2
      go_ret
      refine ⟨?_, rfl⟩
      show Ending.returned (.int .i64 (wrap64 (LM.leN (s.data.toList.take s.size) : Nat))) = _
      rw [HT.out]
    · have hlt : i < s.size := by omega
      have hst := low_step s i hlt (by omega)
      generalize LM.leN (s.data.toList.take i) = X at hst
      generalize hY : LM.leN (s.data.toList.take (i + 1)) = Y at hst
      have HY : Hid _ := hY
      clear hY
      obtain ⟨c, hcb⟩ : ∃ c : Nat, s[i].toNat = c := ⟨_, rfl⟩
      have hc8 : c < 256 := by rw [← hcb]; exact s[i].toNat_lt
      have hw : wrap64 (c : Int) = c := by unfold wrap64; omega
      rw [hcb] at hst
      have h8 : i < 8 := by omega
      rcases (show i = 0 ∨ i = 1 ∨ i = 2 ∨ i = 3 ∨ i = 4 ∨ i = 5 ∨ i = 6 ∨ i = 7 by omega) with rfl | rfl | rfl | rfl | rfl | rfl | rfl | rfl
      all_goals
        simp only [Nat.reduceMul, Nat.reducePow, Int.natCast_mul] at hst
        have HST : Hid _ := hst
        clear hst
        go_wp2
        go_round
        case measure => simp [intOf]; omega
        refine ⟨_, hlt, rfl, ?_⟩
        rw [HY.out]
        refine congrArg (Value.int .i64) ?_
        refine Eq.trans ?_ HST.out
        congr 1
      all_goals (unfold wrap64; omega)
/-- two bytes, the high one first. -/
theorem or8 (a b : Nat) (ha : a < 256) (hb : b < 256) : bits .or .i64 ((a * 256 : Nat) : Int) (b : Int) = ((a * 256 + b : Nat) : Int) := by
  have h := or64 b a 8 (by omega) (by omega) ha
  have e1 : wrap64 (b : Int) = b := by unfold wrap64; omega
  have e2 : wrap64 ((a * 2 ^ 8 : Nat) : Int) = ((a * 256 : Nat) : Int) := by unfold wrap64; omega
  rw [e1, e2] at h
  have hc : bits .or .i64 ((a * 256 : Nat) : Int) (b : Int) = bits .or .i64 (b : Int) ((a * 256 : Nat) : Int) := by
    show IntKind.i64.wrap ((BitVec.ofInt 64 _ ||| BitVec.ofInt 64 _).toNat : Int) = IntKind.i64.wrap ((BitVec.ofInt 64 _ ||| BitVec.ofInt 64 _).toNat : Int)
    rw [BitVec.or_comm]
  rw [hc, h]; unfold wrap64; omega
theorem or0 (b : Nat) (hb : b < 256) : bits .or .i64 0 (b : Int) = (b : Int) := by
  have h := or8 0 b (by omega) hb
  simpa using h
set_option maxHeartbeats 1000000 in
theorem high_2 (s : ByteArray) (h : s.size = 2) (w : World) : Calls Tryz.prog 69 #[.string s] w fun e w' => e = .returned (.int .i64 (((s.data.toList.getD 0 0).toNat * 256 + (s.data.toList.getD 1 0).toNat : Nat) : Int)) ∧ w' = w := by
  have l0 : 0 < s.size := by omega
  have l1 : 1 < s.size := by omega
  have g0 : s.data.toList.getD 0 0 = s[0] := by rw [List.getD_eq_getElem?_getD, at_list s 0 l0]; rfl
  have g1 : s.data.toList.getD 1 0 = s[1] := by rw [List.getD_eq_getElem?_getD, at_list s 1 l1]; rfl
  obtain ⟨c0, e0⟩ : ∃ c : Nat, s[0].toNat = c := ⟨_, rfl⟩
  obtain ⟨c1, e1⟩ : ∃ c : Nat, s[1].toNat = c := ⟨_, rfl⟩
  have b0 : c0 < 256 := by rw [← e0]; exact s[0].toNat_lt
  have b1 : c1 < 256 := by rw [← e1]; exact s[1].toNat_lt
  have o0 := or0 c0 b0
  have o1 := or8 c0 c1 b0 b1
  rw [show ((c0 * 256 : Nat) : Int) = (c0 : Int) * 256 by omega] at o1
  have HG : Hid (((s.data.toList.getD 0 0).toNat * 256 + (s.data.toList.getD 1 0).toNat : Nat) = c0 * 256 + c1) := by show _ = _; rw [g0, g1, e0, e1]
  clear g0 g1
  go_enter Tryz.func69, Tryz.ntmps69
  go_wp2
  go_rounds 3
  go_wp2
  go_ret
  exact ⟨by rw [HG.out]; rfl, rfl⟩
end Go.Proofs.YtadihhngegimkaaGreatDoor
