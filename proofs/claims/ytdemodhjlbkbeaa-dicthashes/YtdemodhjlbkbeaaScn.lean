import Derived.Test.YtdemodhjlbkbeaaIns
import Derived.Deep.RegionWith
import Derived.Deep.CutRange
namespace Go.Proofs.Ytdemodhjlbkbeaa
open Go.RowKit
set_option linter.unusedVariables false
theorem bucket_nil (g B i : Nat) (hi : i < 4) (w : World) (hc : w.cell? ⟨g, 1, none⟩ = some (.slice (some ⟨B, 0, none⟩) 4 4)) (hB : w.cell? ⟨B, i, none⟩ = some (.slice none 0 0)) : Calls Try.prog 39 #[.pointer (some ⟨g, 1, none⟩), .int .i64 (i : Int)] w fun e w' => e = .returned (.slice none 0 0) ∧ w' = w := by
  go_enter Try.func39, Try.ntmps39
  go_wp2
  go_returns
  exact ⟨rfl, rfl⟩
theorem bucket_one (g B i E c : Nat) (hi : i < 4) (hc1 : 1 ≤ c) (w : World) (hc : w.cell? ⟨g, 1, none⟩ = some (.slice (some ⟨B, 0, none⟩) 4 4)) (hB : w.cell? ⟨B, i, none⟩ = some (.slice (some ⟨E, 0, none⟩) 1 c)) : Calls Try.prog 39 #[.pointer (some ⟨g, 1, none⟩), .int .i64 (i : Int)] w fun e w' => e = .returned (.slice (some ⟨E, 0, none⟩) 1 1) ∧ w' = w := by
  have hc2 : (1 : Int) ≤ (c : Int) := by omega
  go_enter Try.func39, Try.ntmps39
  go_wp2
  go_returns
  exact ⟨rfl, rfl⟩
set_option maxHeartbeats 1000000 in
set_option maxRecDepth 100000 in
theorem meet_nil (g B i : Nat) (hi : i < 4) (P : Option Addr) (n c : Nat) (w : World) (hc : w.cell? ⟨g, 1, none⟩ = some (.slice (some ⟨B, 0, none⟩) 4 4)) (hB : w.cell? ⟨B, i, none⟩ = some (.slice none 0 0)) : Calls Try.prog 34 #[.pointer (some ⟨g, 1, none⟩), .slice P n c, .int .i64 (i : Int)] w fun e w' => e = .returned (.slice P n c) ∧ w' = w := by
  have HBK : Hid _ := bucket_nil g B i hi w hc hB
  clear hc hB
  go_enter Try.func34, Try.ntmps34
  go_wp2_with fail
  refine (show Calls _ _ _ _ _ from HBK.out).mono ?_
  rintro e w1 ⟨rfl, rfl⟩
  go_wp2
  go_loopw [1, 13] (fun ck ci wr => wr = w1 ∧ ck = .slice P n c ∧ ci = .int .i64 0) (fun _ _ _ => 0)
  case atStart => exact ⟨rfl, rfl, rfl⟩
  case round =>
    obtain ⟨rfl, rfl, rfl⟩ := hrel
    go_wp2
    go_returns
    exact ⟨rfl, rfl⟩
set_option maxRecDepth 100000 in
theorem rev_0 (w : World) : Calls Try.prog 69 #[.int .u64 0] w fun e w' => e = .returned (.int .u64 0) ∧ w' = w := by
  go_enter Try.func69, Try.ntmps69
  go_wp2
  go_returns
  exact ⟨by kernel_rfl, rfl⟩
set_option maxRecDepth 100000 in
theorem rev_a (w : World) : Calls Try.prog 69 #[.int .u64 4611686018427387904] w fun e w' => e = .returned (.int .u64 2) ∧ w' = w := by
  go_enter Try.func69, Try.ntmps69
  go_wp2
  go_returns
  exact ⟨by kernel_rfl, rfl⟩
set_option maxRecDepth 100000 in
theorem rev_2 (w : World) : Calls Try.prog 69 #[.int .u64 2] w fun e w' => e = .returned (.int .u64 4611686018427387904) ∧ w' = w := by
  go_enter Try.func69, Try.ntmps69
  go_wp2
  go_returns
  exact ⟨by kernel_rfl, rfl⟩
set_option maxRecDepth 100000 in
theorem rev_b (w : World) : Calls Try.prog 69 #[.int .u64 9223372036854775808] w fun e w' => e = .returned (.int .u64 1) ∧ w' = w := by
  go_enter Try.func69, Try.ntmps69
  go_wp2
  go_returns
  exact ⟨by kernel_rfl, rfl⟩
set_option maxRecDepth 100000 in
theorem rev_1 (w : World) : Calls Try.prog 69 #[.int .u64 1] w fun e w' => e = .returned (.int .u64 9223372036854775808) ∧ w' = w := by
  go_enter Try.func69, Try.ntmps69
  go_wp2
  go_returns
  exact ⟨by kernel_rfl, rfl⟩
set_option maxRecDepth 100000 in
theorem rev_c (w : World) : Calls Try.prog 69 #[.int .u64 13835058055282163712] w fun e w' => e = .returned (.int .u64 3) ∧ w' = w := by
  go_enter Try.func69, Try.ntmps69
  go_wp2
  go_returns
  exact ⟨by kernel_rfl, rfl⟩
set_option maxRecDepth 100000 in
theorem rev_3 (w : World) : Calls Try.prog 69 #[.int .u64 3] w fun e w' => e = .returned (.int .u64 13835058055282163712) ∧ w' = w := by
  go_enter Try.func69, Try.ntmps69
  go_wp2
  go_returns
  exact ⟨by kernel_rfl, rfl⟩
set_option maxRecDepth 100000 in
theorem lz_3 (w : World) : Calls Try.prog 68 #[.int .u64 3] w fun e w' => e = .returned (.int .i64 62) ∧ w' = w := by
  go_enter Try.func68, Try.ntmps68
  go_wp2
  trace_state
  go_returns
  exact ⟨by kernel_rfl, rfl⟩
set_option maxHeartbeats 1000000 in
set_option maxRecDepth 100000 in
theorem next_0 (w : World) : Calls Try.prog 50 #[.int .i64 0, .int .i64 4] w fun e w' => e = .returned (.int .i64 2) ∧ w' = w := by
  have HL : Hid _ := lz_3
  have HR1 : Hid _ := rev_0
  have HR2 : Hid _ := rev_a
  have hb1 : bits .and .u64 (1) 3 = 1 := by kernel_rfl
  go_enter Try.func50, Try.ntmps50
  go_wp2_with fail
  refine (show Calls _ _ _ _ _ from HL.out _).mono ?_
  rintro e w1 ⟨rfl, rfl⟩
  go_wp2_with fail
  refine (show Calls _ _ _ _ _ from HR1.out _).mono ?_
  rintro e w1 ⟨rfl, rfl⟩
  go_wp2_with fail
  refine (show Calls _ _ _ _ _ from HR2.out _).mono ?_
  rintro e w1 ⟨rfl, rfl⟩
  go_wp2
  go_returns
  exact ⟨rfl, rfl⟩
set_option maxHeartbeats 1000000 in
set_option maxRecDepth 100000 in
theorem next_2 (w : World) : Calls Try.prog 50 #[.int .i64 2, .int .i64 4] w fun e w' => e = .returned (.int .i64 1) ∧ w' = w := by
  have HL : Hid _ := lz_3
  have HR1 : Hid _ := rev_2
  have HR2 : Hid _ := rev_b
  have hb1 : bits .and .u64 (2) 3 = 2 := by kernel_rfl
  go_enter Try.func50, Try.ntmps50
  go_wp2_with fail
  refine (show Calls _ _ _ _ _ from HL.out _).mono ?_
  rintro e w1 ⟨rfl, rfl⟩
  go_wp2_with fail
  refine (show Calls _ _ _ _ _ from HR1.out _).mono ?_
  rintro e w1 ⟨rfl, rfl⟩
  go_wp2_with fail
  refine (show Calls _ _ _ _ _ from HR2.out _).mono ?_
  rintro e w1 ⟨rfl, rfl⟩
  go_wp2
  go_returns
  exact ⟨rfl, rfl⟩
set_option maxHeartbeats 1000000 in
set_option maxRecDepth 100000 in
theorem next_1 (w : World) : Calls Try.prog 50 #[.int .i64 1, .int .i64 4] w fun e w' => e = .returned (.int .i64 3) ∧ w' = w := by
  have HL : Hid _ := lz_3
  have HR1 : Hid _ := rev_1
  have HR2 : Hid _ := rev_c
  have hb1 : bits .and .u64 (3) 3 = 3 := by kernel_rfl
  go_enter Try.func50, Try.ntmps50
  go_wp2_with fail
  refine (show Calls _ _ _ _ _ from HL.out _).mono ?_
  rintro e w1 ⟨rfl, rfl⟩
  go_wp2_with fail
  refine (show Calls _ _ _ _ _ from HR1.out _).mono ?_
  rintro e w1 ⟨rfl, rfl⟩
  go_wp2_with fail
  refine (show Calls _ _ _ _ _ from HR2.out _).mono ?_
  rintro e w1 ⟨rfl, rfl⟩
  go_wp2
  go_returns
  exact ⟨rfl, rfl⟩
set_option maxHeartbeats 1000000 in
set_option maxRecDepth 100000 in
theorem next_3 (w : World) : Calls Try.prog 50 #[.int .i64 3, .int .i64 4] w fun e w' => e = .returned (.int .i64 0) ∧ w' = w := by
  have HL : Hid _ := lz_3
  have HR1 : Hid _ := rev_3
  have HR2 : Hid _ := rev_0
  have hb1 : bits .and .u64 (4) 3 = 0 := by kernel_rfl
  go_enter Try.func50, Try.ntmps50
  go_wp2_with fail
  refine (show Calls _ _ _ _ _ from HL.out _).mono ?_
  rintro e w1 ⟨rfl, rfl⟩
  go_wp2_with fail
  refine (show Calls _ _ _ _ _ from HR1.out _).mono ?_
  rintro e w1 ⟨rfl, rfl⟩
  go_wp2_with fail
  refine (show Calls _ _ _ _ _ from HR2.out _).mono ?_
  rintro e w1 ⟨rfl, rfl⟩
  go_wp2
  go_returns
  exact ⟨rfl, rfl⟩
end Go.Proofs.Ytdemodhjlbkbeaa
