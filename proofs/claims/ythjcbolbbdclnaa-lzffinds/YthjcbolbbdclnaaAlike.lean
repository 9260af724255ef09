import Derived.Test.YthjcbolbbdclnaaBase
import Derived.Test.YthjcbolbbdclnaaPackMath
namespace Go.Proofs.Ythjcbolbbdclnaa
open Go.RowKit Lz
set_option linter.unusedVariables false

def alikeP (a b : ByteArray) : Nat → Bool := fun k => a.data.toList.getD k 0 == b.data.toList.getD k 0
theorem getD_at (s : ByteArray) (k : Nat) (h : k < s.size) : s.data.toList.getD k 0 = s[k] := by
  rw [List.getD_eq_getElem?_getD, at_list s k h]; rfl
theorem alikeP_at (a b : ByteArray) (k : Nat) (h : k < a.size) (h2 : k < b.size) : alikeP a b k = decide (a[k] = b[k]) := by
  unfold alikeP
  rw [getD_at _ _ h, getD_at _ _ h2]; rfl
theorem byte_ne {x y : UInt8} (h : ¬ x = y) : ((x.toNat : Int) != (y.toNat : Int)) = true := by
  simp only [bne_iff_ne, ne_eq]
  intro e
  exact h (UInt8.toNat_inj.1 (by omega))
set_option maxHeartbeats 1000000 in
set_option maxRecDepth 20000 in
theorem alike_any (a b : ByteArray) (hab : b.size ≤ a.size) (hm : a.size ≤ 140737488355328) (w : World) :
    Calls Try.prog 17 #[.string a, .string b] w fun e w' => e = .returned (.int .i64 (firstBad (alikeP a b) (min b.size 264) 0 : Int)) ∧ ∃ n, w' = w.drewN n := by
  go_enter Try.func17, Try.ntmps17
  go_wp2
  all_goals
    go_loopw [6, 11] (fun _ i wr => ∃ k : Nat, k ≤ min b.size 264 ∧ i = .int .i64 k ∧ firstBad (alikeP a b) (min b.size 264) 0 = firstBad (alikeP a b) (min b.size 264 - k) k ∧ ∃ n, wr = w.drewN n) (fun _ i _ => 264 - (intOf i).toNat)
    case atStart => exact ⟨0, by omega, rfl, rfl, 0, rfl⟩
    case round =>
      obtain ⟨k, hk, rfl, hf, nn, rfl⟩ := hrel
      have HF : Hid (firstBad (alikeP a b) (min b.size 264) 0 = firstBad (alikeP a b) (min b.size 264 - k) k) := hf
      clear hf
      by_cases hlt : k < min b.size 264
      · have hka : k < a.size := by omega
        have hkb : k < b.size := by omega
        have HL : Hid (k < min b.size 264) := hlt
        have hk4 : (k : Int) < 264 := by omega
        clear hlt hk
        have HP : Hid (alikeP a b k = decide (a[k] = b[k])) := alikeP_at a b k hka hkb
        have HS : Hid (firstBad (alikeP a b) (min b.size 264 - k) k = if alikeP a b k = true then firstBad (alikeP a b) (min b.size 264 - (k + 1)) (k + 1) else k) := by
          show _ = _
          rw [show min b.size 264 - k = (min b.size 264 - (k + 1)) + 1 by have := HL.out; omega]; rfl
        by_cases he : a[k] = b[k]
        · have HE : Hid (decide (a[k] = b[k]) = true) := by show _ = _; simpa using he
          go_wp2
          go_quiet (fail)
          go_wp2
          go_roundw
          case rel => exact ⟨k + 1, by have := HL.out; omega, by go_num, by rw [HF.out, HS.out, HP.out, if_pos HE.out], by first | exact ⟨_, rfl⟩ | exact ⟨_, World.drewN_drewN _ _ _⟩⟩
          case measure => simp [intOf]; omega
        · have HE : Hid (¬ decide (a[k] = b[k]) = true) := by show ¬ _; simpa using he
          have hne : ((a[k].toNat : Int) != (b[k].toNat : Int)) = true := byte_ne he
          go_wp2
          go_quiet (fail)
          go_wp2
          go_ret
          exact ⟨ret_int (by rw [HF.out, HS.out, HP.out, if_neg HE.out]), by first | exact ⟨_, rfl⟩ | exact ⟨_, World.drewN_drewN _ _ _⟩⟩
      · have HZ : Hid (min b.size 264 - k = 0) := by show _ = _; omega
        go_wp2
        go_ret
        exact ⟨ret_int (by rw [HF.out, HZ.out]; show _ = ((k : Nat) : Int); omega), _, rfl⟩
end Go.Proofs.Ythjcbolbbdclnaa
