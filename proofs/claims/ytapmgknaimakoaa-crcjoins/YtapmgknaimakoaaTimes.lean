import Derived.Test.YtapmgknaimakoaaJoin
import Derived.Test.YtapmgknaimakoaaBurst
namespace Go.Proofs.Ytapmgknaimakoaa
open Go.RowKit CrcM

/-- the rows of 'M turns'. -/
def mat (M : Nat) : List (BitVec 64) := (List.range 64).map fun i => Hn M (1#64 <<< i)
theorem mat_length (M : Nat) : (mat M).length = 64 := by simp [mat]
theorem mat_get (M i : Nat) (h : i < 64) : (mat M)[i]'(by rw [mat_length]; exact h) = Hn M (1#64 <<< i) := by simp [mat]

set_option maxHeartbeats 400000 in
set_option maxRecDepth 20000 in
theorem times_any (M : Nat) (c : BitVec 64) (w : World) :
    Calls Try.prog 23 #[.agg (arr (mat M)), .int .u64 (uv c)] w fun e w' => e = .returned (.int .u64 (uv (Hn M c))) ∧ Below w.heap.size w w' := by
  go_enter Try.func23, Try.ntmps23
  go_wp2
  go_loop [5, 6] (fun x i => ∃ k : Nat, k ≤ 64 ∧ i = .int .i64 k ∧ x = .int .u64 (uv (Hn M (low k c)))) (fun _ i => 64 - (intOf i).toNat)
  case atStart => exact ⟨0, by omega, rfl, by rw [low_zero, Hn_zero]; rfl⟩
  case round =>
    obtain ⟨k, hk, rfl, rfl⟩ := hrel
    by_cases hlt : k < 64
    · have hbit := bit_at c k
      have hcell : (w.alloc (.cells (arr (mat M)) 42)).cell? ⟨w.heap.size, k, none⟩ = some (.int .u64 (uv (Hn M (1#64 <<< k)))) := by
        rw [World.cell?_alloc_at _ _ _ _ rfl, arr_get _ _ (by rw [mat_length]; exact hlt), mat_get _ _ hlt]
      have HL : Hid _ := Hn_low_succ M k c hlt
      cases hch : c.getLsbD k
      · rw [hch] at hbit
        have HC : Hid _ := hch
        clear hch
        go_wp2
        go_round
        case rel => exact ⟨k + 1, by omega, by go_num, by rw [HL.out, HC.out]; rfl⟩
        case measure => simp [intOf]; omega
      · rw [hch] at hbit
        have HC : Hid _ := hch
        clear hch
        go_wp2
        go_round
        case rel => exact ⟨k + 1, by omega, by go_num, by rw [HL.out, HC.out, uv_xor]; rfl⟩
        case measure => simp [intOf]; omega
    · go_wp2
      go_ret
      exact ⟨ret_int (by rw [low_all _ _ (by omega)]), (Below.refl _ _).alloc (Nat.le_refl _) _⟩
end Go.Proofs.Ytapmgknaimakoaa
