import Derived.Test.YtapmgknaimakoaaTxt
namespace Go.Proofs.Ytapmgknaimakoaa
open Go.RowKit CrcM

theorem sure1 (w : World) : Calls Try.prog 10 #[.string ⟨#[49, 50, 51, 52, 53, 54, 55, 56, 57]⟩] w fun e w' => e = .returned (.int .u64 16845390139448941002) ∧ Below w.heap.size w w' := by
  have h := sum_any ⟨#[49, 50, 51, 52, 53, 54, 55, 56, 57]⟩ (by unfold maxLen; decide) w
  rw [show uv (upd 0#64 (ByteArray.mk #[49, 50, 51, 52, 53, 54, 55, 56, 57]).data.toList) = 16845390139448941002 by decide +kernel] at h
  exact h
theorem sure2 (w : World) : Calls Try.prog 10 #[.string ⟨#[]⟩] w fun e w' => e = .returned (.int .u64 0) ∧ Below w.heap.size w w' :=
  sum_any ⟨#[]⟩ (by unfold maxLen; decide) w
theorem sure3 (w : World) : Calls Try.prog 13 #[.int .u64 258] w fun e w' => e = .returned (.string ⟨#[2, 1, 0, 0, 0, 0, 0, 0]⟩) ∧ Below w.heap.size w w' := by
  have h := text_any 258#64 w
  rw [show textB 258#64 = ⟨#[2, 1, 0, 0, 0, 0, 0, 0]⟩ by decide +kernel] at h
  exact h
set_option maxHeartbeats 400000 in
theorem sure_any (w : World) : Calls Try.prog 9 #[] w fun e w' => e = .returned (.bool true) ∧ Below w.heap.size w w' := by
  go_enter Try.func9, Try.ntmps9
  go_wp2_with fail
  refine (sure1 _).mono ?_
  rintro e w1 ⟨rfl, hb1⟩
  go_wp2_with fail
  refine (sure2 _).mono ?_
  rintro e w2 ⟨rfl, hb2⟩
  go_wp2_with fail
  refine (sure3 _).mono ?_
  rintro e w3 ⟨rfl, hb3⟩
  go_wp2
  go_ret
  exact ⟨rfl, (hb1.trans (hb2.mono hb1.size)).trans (hb3.mono (Nat.le_trans hb1.size hb2.size))⟩
end Go.Proofs.Ytapmgknaimakoaa
